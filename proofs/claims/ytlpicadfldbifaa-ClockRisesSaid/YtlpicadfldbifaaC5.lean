/-
  The row of stamps that clock.Stamps answers, for every row of at most 1000 accesses that can be read; it only makes memory.
-/
import Derived.Test.YtlpicadfldbifaaC4
import Derived.Test.YtlpicadfldbifaaG5
import Derived.Deep.OwnRows
namespace Go.Proofs.Ytlpicadfldbifaa
open Go.RowKit
def stampAt (s : Int) (f : Bool) (z : Nat → Bool) : Nat → Int
  | 0 => s
  | k + 1 => stampAt s f z k + lenI f (z k)
theorem stampAt_bd (s : Int) (f : Bool) (z : Nat → Bool) (k : Nat) : s + 3 * k ≤ stampAt s f z k ∧ stampAt s f z k ≤ s + 24 * k := by
  induction k with
  | zero => simp [stampAt]
  | succ k ih => have := lenI_bd f (z k); simp only [stampAt]; omega
def StampsPost (w : World) (n : Nat) (st : Nat → Int) (e : Ending) (w' : World) : Prop :=
  ∃ g : Nat, e = .returned (.tuple #[.slice (some ⟨g, 0, none⟩) n n, .int .i64 (st n)]) ∧ w.heap.size ≤ g ∧ IRow w' .i64 (some ⟨g, 0, none⟩) n st ∧ Below w.heap.size w w'
def Filled (C : Array Value) (k : Nat) (st : Nat → Int) : Prop := ∀ i, i < k → C[i]? = some (.int .i64 (st i))
theorem Filled.set_ {C : Array Value} {k : Nat} {st : Nat → Int} (h : Filled C k st) (hk : k < C.size) : Filled (C.setIfInBounds k (.int .i64 (st k))) (k + 1) st := fun i hi => by
  by_cases e : i = k
  · subst e; simp [hk]
  · rw [Array.getElem?_setIfInBounds_ne (by omega)]; exact h i (by omega)
theorem heldI_bd (n : Int) : 0 ≤ heldI n ∧ heldI n ≤ 1125899906842624 := by unfold heldI; split <;> (try split) <;> omega
theorem add_zero_block (o i : Nat) : (⟨o, 0, none⟩ : Addr).add i = ⟨o, i, none⟩ := by unfold Addr.add; split <;> simp_all
set_option maxHeartbeats 2000000 in
theorem stamps_any {w : World} {A : Option Addr} {n c : Nat} {z : Nat → Bool} (s : Int) (f : Bool) (R : BRow w A n z) (hn : n ≤ 1000) :
    Calls Try.prog 45 #[.int .i64 s, .bool f, .slice A n c] w (StampsPost w n (stampAt (heldI s) f z)) := by
  have hs := heldI_bd s
  have hmk := fun w => run_make_row' (P := Try.prog) 60 2 (.int .i64 0) 8 Try.underlying60 (by kernel_rfl) rfl .i64 .i64 n (by omega) (by omega) w
  go_enter Try.func45, Try.ntmps45
  go_wp2_with fail
  refine (at_new _ _ _).mono ?_
  rintro e w1 ⟨rfl, hg1, q1⟩
  have z1 := q1.size
  have l1 := hg1.lt
  go_wp2_with fail
  have hz := size_madeCells #[Value.int .i64 0] n
  have hg2 := hg1.alloc (.cells (madeCells #[Value.int .i64 0] n) 2)
  have ho2 := Blk.new w1 2 (madeCells #[Value.int .i64 0] n)
  have hB2 := q1.alloc z1 (.cells (madeCells #[Value.int .i64 0] n) 2)
  generalize madeCells #[Value.int .i64 0] n = C0 at *
  generalize w1.alloc (.cells C0 2) = w2 at *
  generalize hgg : w.heap.size = g at *
  generalize w1.heap.size = o at *
  have HGG := Lib.hid hgg
  clear hg1 q1 hgg
  have st0 : 0 ≤ heldI s := hs.1
  have hF0 : Filled C0 0 (stampAt (heldI s) f z) := fun i hi => absurd hi (by omega)
  go_loopw [20] (fun i wr => ∃ k : Nat, k ≤ n ∧ i = .int .i64 k ∧ ∃ (cyc : Int) (C : Array Value), Blk wr g 85 (ck (stampAt (heldI s) f z k) cyc f false false) ∧ Blk wr o 2 C ∧ C.size = n ∧ Filled C k (stampAt (heldI s) f z) ∧ 0 ≤ cyc ∧ cyc ≤ 2 * k ∧ Below g w wr) (fun i _ => n - (intOf i).toNat)
  case atStart => exact ⟨0, by omega, rfl, 0, C0, hg2, ho2, hz, hF0, by omega, by omega, hB2⟩
  case round =>
    obtain ⟨k, hk, rfl, cyc, C, hg, ho, hC, hF, k0, k1, hB⟩ := hrel
    have zB := hB.size
    have sb := stampAt_bd (heldI s) f z k
    by_cases hlt : k < n
    · obtain ⟨ad, rfl, hl, hc⟩ := R k hlt
      have hcell := (hB.cell (p := ad.add k) (by rw [block_of_add]; rw [HGG.out] at hl; exact hl)).trans hc
      have hC' := Lib.hid hC
      have hF1 : Filled (C.setIfInBounds k (.int .i64 (stampAt (heldI s) f z k))) (k + 1) (stampAt (heldI s) f z) := hF.set_ (by omega)
      clear hc hC
      go_wp2_with fail
      refine (cycle_any _ hg (by omega) (by omega) (by omega) (by omega)).mono ?_
      rintro e w3 ⟨rfl, hg3, q3⟩
      have ho3 := blk_gb ho hg (by decide) q3
      have z3 := q3.size
      have hB3 := below_gb hB q3 (by have := HGG.out; omega) (Nat.le_refl _)
      have ob := oneI_bd (z k)
      have hck : w3.cell? ⟨o, k, none⟩ = some (C[k]'(by rw [hC'.out]; exact hlt)) := by rw [ho3.cell k]; simp
      have hfr := ho3.frozen k
      have hgo : g ≠ o := Blk.ne_ hg3 ho3 (by decide)
      have hg4 := hg3.far (p := ⟨o, k, none⟩) hgo (.int .i64 (stampAt (heldI s) f z k))
      have ho4 := ho3.set_ k (.int .i64 (stampAt (heldI s) f z k))
      have hB4 := hB3.setCell (p := ⟨o, k, none⟩) (show g ≤ o by omega) (.int .i64 (stampAt (heldI s) f z k))
      go_wp2_with fail
      go_roundw
      case rel => exact ⟨k + 1, by omega, by go_num, _, _, hg4, ho4, by simp [hC'.out], hF1, by omega, by omega, hB4⟩
      case measure => simp [intOf]; omega
    · obtain rfl : k = n := by omega
      go_wp2_with fail
      refine (now_any hg).mono ?_
      rintro e w' ⟨rfl, rfl⟩
      go_wp2_with fail
      go_ret2
      refine ⟨o, rfl, by rw [HGG.out]; omega, fun i hi => ⟨_, rfl, ho.lt, ?_, ?_⟩, by rw [HGG.out]; exact hB⟩
      · rw [add_zero_block]; exact (ho.cell i).trans (hF i hi)
      · have := stampAt_bd (heldI s) f z i; exact WalkArith.wf_i64 (by omega)
end Go.Proofs.Ytlpicadfldbifaa
