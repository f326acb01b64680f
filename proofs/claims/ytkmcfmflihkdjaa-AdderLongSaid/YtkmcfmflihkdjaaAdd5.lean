/-
  Adder: Digits, the program's and the answer's; rows of bytes compared.
-/
import Derived.Test.YtkmcfmflihkdjaaAdd4
import Derived.Test.YtkmcfmflihkdjaaA2
import Derived.Test.YtkmcfmflihkdjaaG9
import Derived.Test.YtkmcfmflihkdjaaG13
import Derived.BigQuiet
import Derived.WalkSmall
import Derived.Deep.QuietTactic
namespace Go.Proofs.Ytkmcfmflihkdjaa
open Go.RowKit
set_option linter.unusedVariables false
set_option linter.unusedSimpArgs false
set_option maxRecDepth 100000
/-- What is left of a number behind k bytes of digits. -/
def qn (n : Int) : Nat → Int | 0 => n | k + 1 => qn n k / 100
theorem qn_bd (n : Int) (n0 : 0 ≤ n) (n1 : n ≤ 18446744073709551615) (k : Nat) : 0 ≤ qn n k ∧ qn n k ≤ 18446744073709551615 := by
  induction k with
  | zero => exact ⟨n0, n1⟩
  | succ k ih => simp only [qn]; omega
def pk (x : Int) : Int := x / 10 * 16 + x % 10
/-- Two digits of a number. -/
def dg (n : Int) (k : Nat) : Int := pk (qn n k % 100)
theorem dg_bd (n : Int) (k : Nat) : 0 ≤ dg n k ∧ dg n k ≤ 255 := by unfold dg pk; omega
/-- How many bytes. -/
def dcn (k : Int) : Nat := if k < 0 then 0 else if 10 < k then 10 else k.toNat
def DigR (w : World) (n : Int) (m : Nat) (e : Ending) (w' : World) : Prop :=
  ∃ g, e = .returned (.slice (some ⟨g, 0, none⟩) m m) ∧ w.heap.size ≤ g ∧ IRow w' .u8 (some ⟨g, 0, none⟩) m (dg n) ∧ Below w.heap.size w w'
set_option maxHeartbeats 8000000 in
theorem digits_any' (w : World) (n k : Int) (n0 : 0 ≤ n) (n1 : n ≤ 18446744073709551615) (k0 : -9223372036854775808 ≤ k) (k1 : k ≤ 9223372036854775807) (m : Nat) (hm : dcn k = m) :
    Calls Try.prog 22 #[.int .u64 n, .int .i64 k] w (DigR w n m) := by
  have hm10 : m ≤ 10 := by rw [← hm]; unfold dcn; split; omega; split <;> omega
  obtain ⟨x, hx⟩ : ∃ x : Int, (if k < 0 then 0 else k) = x := ⟨_, rfl⟩
  have hy : (if 10 < x then 10 else x) = (m : Int) := by
    rw [← hm, ← hx]; unfold dcn
    by_cases h1 : k < 0
    · rw [if_pos h1, if_pos h1]; rfl
    · rw [if_neg h1, if_neg h1]
      by_cases h2 : 10 < k
      · rw [if_pos h2, if_pos h2]; rfl
      · rw [if_neg h2, if_neg h2]; omega
  have hmk := fun w => run_make_row' (P := Try.prog) 27 5 (.int .u8 0) 1 Try.underlying27 (by kernel_rfl) rfl .i64 .i64 m (by omega) (by omega) w
  have QB := Lib.hid (qn_bd n n0 n1)
  have HM := Lib.hid hm
  clear hm n0 n1
  go_enter Try.func22, Try.ntmps22
  go_wp2_with fail
  clear hx hy
  have hz := size_madeCells #[Value.int .u8 0] m
  have ho2 := Blk.new w 5 (madeCells #[Value.int .u8 0] m)
  have hB2 : Below w.heap.size w (w.alloc (.cells (madeCells #[Value.int .u8 0] m) 5)) := (Below.refl _ _).alloc (Nat.le_refl _) _
  generalize madeCells #[Value.int .u8 0] m = C0 at *
  generalize World.alloc _ _ = w2 at *
  have hF0 : FillI C0 0 (dg n) := fun i hi => absurd hi (by omega)
  generalize hgg : w.heap.size = g at *
  have HGG := Lib.hid hgg
  clear hgg
  go_loopw [0, 13] (fun q i wr => ∃ k : Nat, k ≤ m ∧ i = .int .i64 k ∧ q = .int .u64 (qn n k) ∧ ∃ C : Array Value, Blk wr g 5 C ∧ C.size = m ∧ FillI C k (dg n) ∧ Below g w wr) (fun _ i _ => m - (intOf i).toNat)
  case atStart => exact ⟨0, by omega, rfl, rfl, C0, ho2, hz, hF0, hB2⟩
  case round =>
    obtain ⟨k, hk, rfl, rfl, C, ho, hC, hF, hB⟩ := hrel
    have zB := hB.size
    rw [HGG.out] at zB
    have hol := ho.lt
    by_cases hlt : k < m
    · obtain ⟨q0, q1⟩ := QB.out k
      have e1 : qn n (k + 1) = qn n k / 100 := rfl
      have e2 : dg n k = pk (qn n k % 100) := rfl
      obtain ⟨q, hq⟩ : ∃ q, qn n k = q := ⟨_, rfl⟩
      rw [hq] at e1 e2 q0 q1 ⊢
      obtain ⟨r, hr⟩ : ∃ r, q % 100 = r := ⟨_, rfl⟩
      have r0 : 0 ≤ r := by omega
      have r1 : r ≤ 99 := by omega
      rw [hr] at e2
      have hr2 : q.tmod 100 = r := by rw [Int.tmod_eq_emod_of_nonneg q0]; exact hr
      obtain ⟨u, hu⟩ : ∃ u, pk r = u := ⟨_, rfl⟩
      have PK := fun W => pack_yes r W r0 r1
      unfold pk at hu
      rw [hu] at PK
      obtain ⟨cv, hck⟩ : ∃ cv, wr.cell? ⟨g, k, none⟩ = some cv := ⟨C[k]'(by rw [hC]; exact hlt), by rw [ho.cell k]; simp⟩
      have hfr := ho.frozen k
      have HU := Lib.hid hu
      have HPK := Lib.hid PK
      have E1 := Lib.hid e1
      have E2 := Lib.hid e2
      have HC := Lib.hid hC
      have HO := Lib.hid ho
      have HB := Lib.hid hB
      have HF := Lib.hid hF
      clear hq hu PK e1 e2 hC ho hB hF ho2 hz hF0 hB2 hmk
      go_wp2_with fail
      refine (HPK.out _).mono ?_
      rintro e w3 ⟨rfl, rfl⟩
      go_wp2_with fail
      all_goals
        have B4 := Lib.hid (HB.out.setCell (p := ⟨g, k, none⟩) (Nat.le_refl g) (.int .u8 u))
        have O4 := Lib.hid (HO.out.set_ k (.int .u8 u))
        go_roundw
        case rel =>
          refine ⟨k + 1, by omega, by go_num, by rw [E1.out], _, O4.out, by simp [HC.out], ?_, B4.out⟩
          rw [show u = dg n k by rw [E2.out, ← HU.out]; rfl]
          exact HF.out.set_ (by rw [HC.out]; exact hlt)
        case measure => simp [intOf]; omega
    · obtain rfl : k = m := by omega
      go_wp2_with fail
      go_ret
      refine ⟨g, rfl, by rw [HGG.out]; omega, fun i hi => ⟨_, rfl, ho.lt, ?_, ?_⟩, by rw [HGG.out]; exact hB⟩
      · rw [add_zero_block]; exact (ho.cell i).trans (hF i hi)
      · have := dg_bd n i; exact WalkArith.wf_u8 (by omega)
theorem u8_inf : (Try.prog.info? 5).map (fun i => (i.zero, i.size, i.bytes)) = some (some (.int .u8 0), 1, 1) := by kernel_rfl
def RDigR (w : World) (n : Int) (m : Nat) (e : Ending) (w' : World) : Prop :=
  ∃ v, e = .returned v ∧ w'.ownsRow w.heap.size 5 1 v m (intsOf .u8 (dg n) m) ∧ Below w.heap.size w w'
theorem intsOf_snoc (k : IntKind) (z : Nat → Int) (n : Nat) : intsOf k z (n + 1) = intsOf k z n ++ [.int k (z n)] := by simp [intsOf, List.range_succ]
set_option maxHeartbeats 8000000 in
theorem rdigits_any (w : World) (n k : Int) (n0 : 0 ≤ n) (n1 : n ≤ 18446744073709551615) (k0 : -9223372036854775808 ≤ k) (k1 : k ≤ 9223372036854775807) (m : Nat) (hm : dcn k = m) :
    Calls Try.prog 20 #[.int .u64 n, .int .i64 k] w (RDigR w n m) := by
  have hm10 : m ≤ 10 := by rw [← hm]; unfold dcn; split; omega; split <;> omega
  have hmk : ∀ j : Nat, j < m → (j : Int) < k ∧ (j : Int) < 10 := fun j hj => by rw [← hm] at hj; unfold dcn at hj; split at hj; omega; split at hj <;> omega
  have hme : ¬ (m : Int) < k ∨ m = 10 := by rw [← hm]; unfold dcn; split; (left; omega); split; (right; rfl); (left; omega)
  have QB := Lib.hid (qn_bd n n0 n1)
  have HMK := Lib.hid hmk
  have HME := Lib.hid hme
  have K0 := Lib.hid k0
  have K1 := Lib.hid k1
  clear hm n0 n1 hmk hme k0 k1
  go_enter Try.func20, Try.ntmps20
  go_wp2_with fail
  have own0 : (w.alloc (.cells #[] 5)).ownsRow w.heap.size 5 1 (.slice (some ⟨w.heap.size, 0, none⟩) 0 0) 0 [] :=
    ⟨rfl, Or.inr ⟨w.heap.size, 0, #[], rfl, Nat.le_refl _, heap_alloc_new w _, Nat.le_refl _, by unfold maxLen; omega, rfl, rfl⟩⟩
  have b0 : Below w.heap.size w (w.alloc (.cells #[] 5)) := (Below.refl _ _).alloc (Nat.le_refl _) _
  go_loopw [0, 5, 6] (fun q v i wr => ∃ j : Nat, j ≤ m ∧ i = .int .i64 j ∧ q = .int .u64 (qn n j) ∧ wr.ownsRow w.heap.size 5 1 v j (intsOf .u8 (dg n) j) ∧ Below w.heap.size w wr) (fun _ _ i _ => m - (intOf i).toNat)
  case atStart => exact ⟨0, by omega, rfl, rfl, own0, b0⟩
  case round =>
    obtain ⟨j, hj, rfl, rfl, own, hB⟩ := hrel
    have hS := hB.size
    clear own0 b0
    by_cases hlt : j < m
    · obtain ⟨j0, j1⟩ := HMK.out j hlt
      obtain ⟨q0, q1⟩ := QB.out j
      have e1 : qn n (j + 1) = qn n j / 100 := rfl
      have e2 : dg n j = pk (qn n j % 100) := rfl
      obtain ⟨q, hq⟩ : ∃ q, qn n j = q := ⟨_, rfl⟩
      rw [hq] at e1 e2 q0 q1 ⊢
      obtain ⟨u, hu⟩ : ∃ u, pk (q % 100) = u := ⟨_, rfl⟩
      rw [hu] at e2
      have hu2 : q % 10 + q / 10 % 10 * 16 = u := by rw [← hu]; unfold pk; omega
      have u0 : 0 ≤ u := by omega
      have u1 : u ≤ 255 := by omega
      obtain ⟨v', w', hrun, own', gb⟩ := more_new (P := Try.prog) (t := 27) (e := 5) (ty := 27) (c := 1) (m := 1) Try.underlying27 u8_inf rfl (by decide) own #[.int .u8 u] rfl (fun x hx => by simp at hx; subst hx; rfl) rfl (by omega) (by omega) hS
      have hB' : Below w.heap.size w w' := (hB.alloc hS (.cells #[.int .u8 u] 5)).grown gb (by simp; omega) (fun i h => (own.lt i h).1)
      have E1 := Lib.hid e1
      have E2 := Lib.hid e2
      have OWN := Lib.hid own'
      have HB' := Lib.hid hB'
      clear hq hu e1 e2 own hB own' gb hB'
      go_wp2_with (at_builtin; refine wpList_append_run rfl (.tmp 17) (.tmp 26) 27 rfl rfl rfl hrun ?_)
      go_roundw
      case rel => exact ⟨j + 1, by omega, by go_num, by rw [E1.out], by rw [intsOf_snoc, E2.out]; exact OWN.out, HB'.out⟩
      case measure => simp [intOf]; omega
    · obtain rfl : j = m := by omega
      have OWN := Lib.hid own
      have HB := Lib.hid hB
      clear own hB
      rcases HME.out with h | h
      · go_wp2_with fail
        go_ret
        exact ⟨_, rfl, OWN.out, HB.out⟩
      · by_cases h2 : (j : Int) < k
        · have h3 : ¬ (j : Int) < 10 := by omega
          clear h
          go_wp2_with fail
          go_ret
          exact ⟨_, rfl, OWN.out, HB.out⟩
        · clear h
          go_wp2_with fail
          go_ret
          exact ⟨_, rfl, OWN.out, HB.out⟩
end Go.Proofs.Ytkmcfmflihkdjaa
