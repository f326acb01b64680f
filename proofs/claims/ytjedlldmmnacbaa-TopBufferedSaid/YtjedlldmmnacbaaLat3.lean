/-
  The row of what is read, step by step, that latch.Row answers; it only makes memory.
-/
import Derived.Test.YtjedlldmmnacbaaMLat
import Derived.Test.YtjedlldmmnacbaaG17
import Derived.Deep.OwnRows
namespace Go.Proofs.Ytjedlldmmnacbaa
open Go.RowKit
set_option linter.unusedVariables false
set_option maxRecDepth 100000
def rowAt (v : Int) (ps : Nat → Int × Int) : Nat → Int
  | 0 => v
  | k + 1 => mixI (rowAt v ps k) (ps k).1 (ps k).2
def RowR (w : World) (n : Nat) (v : Int) (ps : Nat → Int × Int) (e : Ending) (w' : World) : Prop :=
  ∃ g : Nat, e = .returned (.tuple #[.slice (some ⟨g, 0, none⟩) n n, .int .u8 (rowAt v ps n)]) ∧ w.heap.size ≤ g ∧ IRow w' .u8 (some ⟨g, 0, none⟩) n (fun i => rowAt v ps (i + 1)) ∧ Below w.heap.size w w'
def FilledB (C : Array Value) (k : Nat) (st : Nat → Int) : Prop := ∀ i, i < k → C[i]? = some (.int .u8 (st i))
theorem FilledB.set_ {C : Array Value} {k : Nat} {st : Nat → Int} (h : FilledB C k st) (hk : k < C.size) : FilledB (C.setIfInBounds k (.int .u8 (st k))) (k + 1) st := fun i hi => by
  by_cases e : i = k
  · subst e; simp [hk]
  · rw [Array.getElem?_setIfInBounds_ne (by omega)]; exact h i (by omega)
theorem rowAt_bd {w : World} {A : Option Addr} {n : Nat} {ps : Nat → Int × Int} (v : Int) (v0 : 0 ≤ v) (v1 : v ≤ 255) (R : I2Row w .u8 .u8 A n ps) (k : Nat) (hk : k ≤ n) : 0 ≤ rowAt v ps k ∧ rowAt v ps k ≤ 255 := by
  induction k with
  | zero => exact ⟨v0, v1⟩
  | succ k ih =>
    obtain ⟨ad, _, _, _, _, w1, w2⟩ := R k (by omega)
    have h := ih (by omega)
    exact mix_byte _ _ _ h.1 h.2 (bounds_u8 w1).1 (bounds_u8 w1).2 (bounds_u8 w2).1 (bounds_u8 w2).2
set_option maxHeartbeats 2000000 in
theorem row_any {w : World} {A : Option Addr} {n c : Nat} {ps : Nat → Int × Int} (v : Int) (v0 : 0 ≤ v) (v1 : v ≤ 255) (R : I2Row w .u8 .u8 A n ps) (hn : n ≤ 1000) :
    Calls Try.prog 29 #[.int .u8 v, .slice A n c] w (RowR w n v ps) := by
  have hmk := fun w => run_make_row' (P := Try.prog) 53 5 (.int .u8 0) 1 Try.underlying53 (by kernel_rfl) rfl .i64 .i64 n (by omega) (by omega) w
  have HR := Lib.hid R
  clear R
  go_enter Try.func29, Try.ntmps29
  go_wp2_with fail
  refine (lnew_any _ _).mono ?_
  rintro e w' ⟨rfl, rfl⟩
  go_wp2_with fail
  have hz := size_madeCells #[Value.int .u8 0] n
  have hg0 : LT (w.alloc (.cells #[.int .u8 v] 77)) w.heap.size v := Blk.new w _ _
  have hg2 : LT ((w.alloc (.cells #[.int .u8 v] 77)).alloc (.cells (madeCells #[Value.int .u8 0] n) 5)) w.heap.size v := Blk.alloc hg0 _
  have ho2 := Blk.new (w.alloc (.cells #[.int .u8 v] 77)) 5 (madeCells #[Value.int .u8 0] n)
  have hB1 : Below w.heap.size w (w.alloc (.cells #[.int .u8 v] 77)) := (Below.refl _ _).alloc (Nat.le_refl _) _
  have hB2 := hB1.alloc hB1.size (.cells (madeCells #[Value.int .u8 0] n) 5)
  have hoo : (w.alloc (.cells #[.int .u8 v] 77)).heap.size = w.heap.size + 1 := by simp
  rw [hoo] at ho2
  clear hoo hg0 hB1
  generalize madeCells #[Value.int .u8 0] n = C0 at *
  generalize World.alloc _ _ = w2 at *
  have hF0 : FilledB C0 0 (fun i => rowAt v ps (i + 1)) := fun i hi => absurd hi (by omega)
  generalize hgg : w.heap.size = g at *
  have HGG := Lib.hid hgg
  clear hgg
  go_loopw [17] (fun i wr => ∃ k : Nat, k ≤ n ∧ i = .int .i64 k ∧ ∃ C : Array Value, LT wr g (rowAt v ps k) ∧ Blk wr (g + 1) 5 C ∧ C.size = n ∧ FilledB C k (fun i => rowAt v ps (i + 1)) ∧ Below g w wr) (fun i _ => n - (intOf i).toNat)
  case atStart => exact ⟨0, by omega, rfl, C0, hg2, ho2, hz, hF0, hB2⟩
  case round =>
    obtain ⟨k, hk, rfl, C, hg, ho, hC, hF, hB⟩ := hrel
    have zB := hB.size
    rw [HGG.out] at zB
    have hgl := hg.lt
    have hol := ho.lt
    by_cases hlt : k < n
    · obtain ⟨ad, rfl, hl, h0, h1, _, _⟩ := HR.out k hlt
      rw [HGG.out] at hl
      have hc0 := (hB.cell (p := ad.add (k * 2)) (by rw [block_of_add]; exact hl)).trans h0
      have hc1 := cell_next ((hB.cell (p := ad.add (k * 2 + 1)) (by rw [block_of_add]; exact hl)).trans h1)
      obtain ⟨x, hx⟩ : ∃ x, (ps k).1 = x := ⟨_, rfl⟩
      obtain ⟨y, hy⟩ : ∃ y, (ps k).2 = y := ⟨_, rfl⟩
      rw [hx] at hc0
      rw [hy] at hc1
      have HX := Lib.hid hx
      have HY := Lib.hid hy
      have HC := Lib.hid hC
      have HL := Lib.hid hl
      have HGl := Lib.hid hg
      have HOl := Lib.hid ho
      have HB := Lib.hid hB
      have HF := Lib.hid hF
      clear h0 h1 hx hy hC hl hg ho hB hF hg2 ho2 hz hF0 hB2
      go_wp2_with fail
      refine (lread_any (HGl.out.alloc _) _ _).mono ?_
      rintro e w3 ⟨rfl, q1, q2⟩
      have hB3 : Below g w w3 := (HB.out.alloc zB _).trans (q2.below (by simp; omega) (by simp))
      have ho3 : Blk w3 (g + 1) 5 C := (HOl.out.alloc _).kp q2 (by simp)
      have hck : w3.cell? ⟨g + 1, k, none⟩ = some (C[k]'(by rw [HC.out]; exact hlt)) := by rw [ho3.cell k]; simp
      have hfr := ho3.frozen k
      have hg4 : LT (w3.setCell ⟨g + 1, k, none⟩ (.int .u8 (mixI (rowAt v ps k) x y))) g _ := Blk.far q1 (by simp) _
      have ho4 := ho3.set_ k (.int .u8 (mixI (rowAt v ps k) x y))
      have hB4 := hB3.setCell (p := ⟨g + 1, k, none⟩) (show g ≤ g + 1 by omega) (.int .u8 (mixI (rowAt v ps k) x y))
      have G4 := Lib.hid hg4
      have O4 := Lib.hid ho4
      have B4 := Lib.hid hB4
      clear q1 q2 hB3 ho3 hg4 ho4 hB4
      go_wp2_with fail
      go_roundw
      case rel =>
        have e1 : rowAt v ps (k + 1) = mixI (rowAt v ps k) x y := by simp only [rowAt, HX.out, HY.out]
        refine ⟨k + 1, by omega, by go_num, _, by rw [e1]; exact G4.out, O4.out, by simp [HC.out], ?_, B4.out⟩
        rw [← e1]
        exact HF.out.set_ (st := fun i => rowAt v ps (i + 1)) (by rw [HC.out]; exact hlt)
      case measure => simp [intOf]; omega
    · obtain rfl : k = n := by omega
      go_wp2_with fail
      refine (value_any hg).mono ?_
      rintro e w' ⟨rfl, rfl⟩
      go_wp2_with fail
      go_ret2
      refine ⟨g + 1, rfl, by rw [HGG.out]; omega, fun i hi => ⟨_, rfl, ho.lt, ?_, ?_⟩, by rw [HGG.out]; exact hB⟩
      · rw [add_zero_block]; exact (ho.cell i).trans (hF i hi)
      · have := rowAt_bd v v0 v1 HR.out (i + 1) (by omega); exact WalkArith.wf_u8 (by omega)
end Go.Proofs.Ytjedlldmmnacbaa
