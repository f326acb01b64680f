/-
  Moves: At, Count, Ends; the reference's At, Count.
-/
import Derived.Test.YtndhkdcdhpfajaaDoorMmu2
import Derived.Test.YtndhkdcdhpfajaaDoorG5
import Derived.Deep.QuietTactic
import Derived.BigQuiet
namespace Go.Proofs.YtndhkdcdhpfajaaDoor
open Go.RowKit
set_option linter.unusedVariables false
set_option linter.unusedSimpArgs false
set_option maxRecDepth 100000
/-- Where the byte with a number comes from, and goes to. -/
def mvF (k : Nat) (f n : Int) : Int := if k = 0 ∨ k = 2 ∨ k = 3 then (f + n) % 65536 else if k = 1 then (f - n) % 65536 else (f + n % 2) % 65536
def mvT (k : Nat) (t n : Int) : Int := if k = 0 ∨ k = 4 then (t + n) % 65536 else if k = 1 then (t - n) % 65536 else if k = 2 then t else (t + n % 2) % 65536
def atV (k : Nat) (f t n : Int) : Array Value := if k < 5 ∧ 0 ≤ n then #[.agg #[.int .u16 (mvF k f n), .int .u16 (mvT k t n)], .bool true] else #[.agg #[.int .u16 0, .int .u16 0], .bool false]
def cntP (l : Int) : Int := if l = 0 then 65536 else l
theorem cntP_bd (l : Int) (l0 : 0 ≤ l) (l1 : l ≤ 65535) : 1 ≤ cntP l ∧ cntP l ≤ 65536 := by unfold cntP; split <;> omega
theorem mvF_bd (k : Nat) (f n : Int) : 0 ≤ mvF k f n ∧ mvF k f n ≤ 65535 := by unfold mvF; split; omega; split <;> omega
theorem mvT_bd (k : Nat) (t n : Int) (t0 : 0 ≤ t) (t1 : t ≤ 65535) : 0 ≤ mvT k t n ∧ mvT k t n ≤ 65535 := by unfold mvT; split; omega; split; omega; split <;> omega
theorem v16_mod (n : Int) : IntKind.u16.wrap n = n % 65536 := by simp [IntKind.wrap, IntKind.signed, IntKind.bits]
theorem kinds_of (k : Nat) : k = 0 ∨ k = 1 ∨ k = 2 ∨ k = 3 ∨ k = 4 ∨ 5 ≤ k := by omega
set_option maxHeartbeats 4000000 in
theorem vcount_any (l : Int) (l0 : 0 ≤ l) (l1 : l ≤ 65535) (w : World) : Calls Tryd.prog 20 #[.int .u16 l] w fun e w' => e = .returned (.int .i64 (cntP l)) ∧ w = w' := by
  by_cases h : l = 0
  · subst h
    go_enter Tryd.func20, Tryd.ntmps20
    go_wp2
    go_ret
    exact ⟨rfl, rfl⟩
  · have e : cntP l = l := if_neg h
    have hb : (l == 0) = false := by simp [h]
    rw [e]
    go_enter Tryd.func20, Tryd.ntmps20
    go_wp2
    go_ret
    exact ⟨by go_num, rfl⟩
set_option maxHeartbeats 4000000 in
theorem rvcount_any (l : Int) (l0 : 0 ≤ l) (l1 : l ≤ 65535) (w : World) : Calls Tryd.prog 22 #[.int .u16 l] w fun e w' => e = .returned (.int .i64 (cntP l)) ∧ w = w' := by
  by_cases h : l = 0
  · subst h
    go_enter Tryd.func22, Tryd.ntmps22
    go_wp2
    go_ret
    exact ⟨rfl, rfl⟩
  · have e : cntP l = l := if_neg h
    have hb : (l == 0) = false := by simp [h]
    rw [e]
    go_enter Tryd.func22, Tryd.ntmps22
    go_wp2
    go_ret
    exact ⟨by go_num, rfl⟩
set_option maxHeartbeats 8000000 in
theorem vat_any (k : Nat) (f t n : Int) (f0 : 0 ≤ f) (f1 : f ≤ 65535) (t0 : 0 ≤ t) (t1 : t ≤ 65535) (n0 : -9223372036854775808 ≤ n) (n1 : n ≤ 9223372036854775807) (w : World) : Calls Tryd.prog 19 #[.int .u8 (k : Int), .int .u16 f, .int .u16 t, .int .i64 n] w fun e w' => e = .returned (.tuple (atV k f t n)) ∧ Below w.heap.size w w' := by
  by_cases hn : n < 0
  · have e : atV k f t n = #[.agg #[.int .u16 0, .int .u16 0], .bool false] := if_neg (by omega)
    rw [e]
    go_enter Tryd.func19, Tryd.ntmps19
    go_wp2
    ((try simp only [Exit.inBlock, Exit.then]); refine bodyPost_ret (results_cell_tmp (a := ⟨w.heap.size, 0, none⟩) Tryd.results19 (by rfl) ((Blk.new w _ _).run_load (P := Tryd.prog) Tryd.underlying48 rfl (by kernel_rfl)) rfl) rfl ?_)
    exact ⟨rfl, (Below.refl _ w).alloc (Nat.le_refl _) _⟩
  · have m0 : 0 ≤ n := by omega
    have e2 : n.tmod 2 = n % 2 := Int.tmod_eq_emod_of_nonneg m0
    have e3 : IntKind.u16.wrap (n % 2) = n % 2 := by rw [v16_mod]; omega
    have e4 : wrap64 (n % 2) = n % 2 := IntWalk.wrap64_in _ (by omega)
    have e5 : IntKind.u16.wrap (f + IntKind.u16.wrap n) = (f + n) % 65536 := by rw [v16_mod, v16_mod]; omega
    have e6 : IntKind.u16.wrap (t + IntKind.u16.wrap n) = (t + n) % 65536 := by rw [v16_mod, v16_mod]; omega
    have e7 : IntKind.u16.wrap (f - IntKind.u16.wrap n) = (f - n) % 65536 := by rw [v16_mod, v16_mod]; omega
    have e8 : IntKind.u16.wrap (t - IntKind.u16.wrap n) = (t - n) % 65536 := by rw [v16_mod, v16_mod]; omega
    have e9 : IntKind.u16.wrap (f + n % 2) = (f + n % 2) % 65536 := v16_mod _
    have ea : IntKind.u16.wrap (t + n % 2) = (t + n % 2) % 65536 := v16_mod _
    have HN := Lib.hid n0
    have HM := Lib.hid n1
    have He2 := Lib.hid e2
    have He3 := Lib.hid e3
    have He4 := Lib.hid e4
    have He5 := Lib.hid e5
    have He6 := Lib.hid e6
    have He7 := Lib.hid e7
    have He8 := Lib.hid e8
    have He9 := Lib.hid e9
    have Hea := Lib.hid ea
    clear e2 e3 e4 e5 e6 e7 e8 e9 ea n0 n1
    rcases kinds_of k with rfl | rfl | rfl | rfl | rfl | h
    case inr.inr.inr.inr.inr =>
      have e : atV k f t n = #[.agg #[.int .u16 0, .int .u16 0], .bool false] := if_neg (by omega)
      have h0 : (5 : Int) ≤ k := by omega
      rw [e]
      go_enter Tryd.func19, Tryd.ntmps19
      go_wp2
      ((try simp only [Exit.inBlock, Exit.then]); refine bodyPost_ret (results_cell_tmp (a := ⟨w.heap.size, 0, none⟩) Tryd.results19 (by rfl) ((Blk.new w _ _).run_load (P := Tryd.prog) Tryd.underlying48 rfl (by kernel_rfl)) rfl) rfl ?_)
      exact ⟨rfl, (Below.refl _ w).alloc (Nat.le_refl _) _⟩
    all_goals unfold atV
    all_goals rw [if_pos ⟨by omega, m0⟩]
    all_goals go_enter Tryd.func19, Tryd.ntmps19
    all_goals go_wp2
    all_goals ((try simp only [Exit.inBlock, Exit.then]); refine bodyPost_ret (results_cell_tmp (a := ⟨w.heap.size, 0, none⟩) Tryd.results19 (by rfl) ((Blk.new w _ _).run_load (P := Tryd.prog) Tryd.underlying48 rfl (by kernel_rfl)) rfl) rfl ?_)
    all_goals exact ⟨by first | rfl | (simp only [He2.out, He3.out, He4.out, He5.out, He6.out, He7.out, He8.out, He9.out, Hea.out]; rfl), (Below.refl _ w).alloc (Nat.le_refl _) _⟩
set_option maxHeartbeats 8000000 in
theorem rvat_any (k : Nat) (hk : k < 5) (f t n : Int) (f0 : 0 ≤ f) (f1 : f ≤ 65535) (t0 : 0 ≤ t) (t1 : t ≤ 65535) (n0 : 0 ≤ n) (n1 : n ≤ 9223372036854775807) (w : World) : Calls Tryd.prog 26 #[.int .u8 (k : Int), .int .u16 f, .int .u16 t, .int .i64 n] w fun e w' => e = .returned (.tuple #[.int .u16 (mvF k f n), .int .u16 (mvT k t n)]) ∧ w = w' := by
  have m1 : n.tmod 65536 = n % 65536 := Int.tmod_eq_emod_of_nonneg n0
  have m2 : n.tmod 2 = n % 2 := Int.tmod_eq_emod_of_nonneg n0
  have hk : k = 0 ∨ k = 1 ∨ k = 2 ∨ k = 3 ∨ k = 4 := by omega
  rcases hk with rfl | rfl | rfl | rfl | rfl
  all_goals go_enter Tryd.func26, Tryd.ntmps26
  all_goals go_wp2
  all_goals go_ret2
  all_goals exact ⟨by first | (unfold mvF mvT; simp; done) | (unfold mvF mvT; simp; go_num), rfl⟩
end Go.Proofs.YtndhkdcdhpfajaaDoor
