/-
  Opcode: strings.TrimRight of blanks.
-/
import Derived.Test.YtleofglnlfpoeaaDoorOpc2
namespace Go.Proofs.YtleofglnlfpoeaaDoor
open Go.RowKit
set_option linter.unusedVariables false
set_option linter.unusedSimpArgs false
set_option maxRecDepth 100000
set_option maxHeartbeats 4000000 in
theorem otrim_any (l : List UInt8) (hl : l.length ≤ 1000) (w : World) : Calls Tryd.prog 42 #[.string (mkS l), .string ⟨#[32]⟩] w fun e w' => e = .returned (.string (mkS (trimL l))) ∧ w = w' := by
  have hb := fun W => otrimByte_any l hl W
  have hz := mkS_size l
  by_cases h0 : l = []
  · subst h0
    obtain ⟨S, hS⟩ : ∃ S, mkS [] = S := ⟨_, rfl⟩
    have he : S.toList.isEmpty = true := by rw [← hS, mkS_toList]; rfl
    rw [show trimL [] = [] from rfl, hS] at *
    clear hb hS
    go_enter Tryd.func42, Tryd.ntmps42
    go_wp2
    go_ret
    exact ⟨rfl, rfl⟩
  · have he : (mkS l).toList.isEmpty = false := by rw [mkS_toList]; cases l with | nil => exact absurd rfl h0 | cons a b => rfl
    obtain ⟨S, hS⟩ : ∃ S, mkS l = S := ⟨_, rfl⟩
    rw [hS] at he hb ⊢
    clear hS hz h0
    have HB := Lib.hid hb
    clear hb
    have e32 : (((⟨#[32]⟩ : ByteArray)[0]'(by decide)).toNat : Int) = 32 := by decide
    go_enter Tryd.func42, Tryd.ntmps42
    go_wp2_with fail
    refine (HB.out _).mono ?_
    rintro e w' ⟨rfl, rfl⟩
    go_wp2
    go_ret
    exact ⟨rfl, rfl⟩
def impP (l : List UInt8) : Int := if l = [80, 72, 65] ∨ l = [80, 72, 80] ∨ l = [80, 72, 88] ∨ l = [80, 72, 89] ∨ l = [83, 65, 88] ∨ l = [83, 65, 89] ∨ l = [83, 88, 89] ∨ l = [67, 83, 76] ∨ l = [67, 83, 72] then 3 else if l = [80, 76, 65] ∨ l = [80, 76, 80] ∨ l = [80, 76, 88] ∨ l = [80, 76, 89] then 4 else if l = [82, 84, 83] ∨ l = [82, 84, 73] then 7 else 2
def immP (l : List UInt8) : Int := if l = [66, 82, 75] then 8 else if l = [84, 65, 77] then 5 else if l = [84, 77, 65] ∨ l = [83, 84, 48] ∨ l = [83, 84, 49] ∨ l = [83, 84, 50] then 4 else 2
def chgP (l : List UInt8) : Bool := decide (l = [65, 83, 76] ∨ l = [76, 83, 82] ∨ l = [82, 79, 76] ∨ l = [82, 79, 82] ∨ l = [73, 78, 67] ∨ l = [68, 69, 67] ∨ l = [84, 83, 66] ∨ l = [84, 82, 66])
def zerP (l : List UInt8) : Int := if hpL l [82, 77, 66] = true then 7 else if hpL l [83, 77, 66] = true then 7 else if chgP l = true then 6 else 4
def absP (l : List UInt8) : Int := if chgP l = true then 7 else if l = [74, 83, 82] then 7 else if l = [74, 77, 80] then 4 else 5
def relP (l : List UInt8) : Int := if l = [66, 82, 65] then 4 else if l = [66, 83, 82] then 8 else 2
def cycP (l : List UInt8) (m : Int) : Int := if m = 0 then impP l else if m = 1 then immP l else if m = 2 ∨ m = 3 ∨ m = 4 then zerP l else if m = 5 ∨ m = 6 ∨ m = 7 then absP l else if m = 11 then relP l else if m = 12 then 6 else if m = 15 ∨ m = 16 then 8 else if m = 19 then 17 else 7
set_option maxHeartbeats 4000000 in
theorem oimplied_any (s : ByteArray) (w : World) : Calls Tryd.prog 72 #[.string s] w fun e w' => e = .returned (.int .i64 (impP s.toList)) ∧ w = w' := by
  go_enter Tryd.func72, Tryd.ntmps72
  go_wp2
  all_goals go_ret
  all_goals refine ⟨?_, rfl⟩
  all_goals simp_all [impP]
set_option maxHeartbeats 4000000 in
theorem oimmediate_any (s : ByteArray) (w : World) : Calls Tryd.prog 73 #[.string s] w fun e w' => e = .returned (.int .i64 (immP s.toList)) ∧ w = w' := by
  go_enter Tryd.func73, Tryd.ntmps73
  go_wp2
  all_goals go_ret
  all_goals refine ⟨?_, rfl⟩
  all_goals simp_all [immP]
set_option maxHeartbeats 4000000 in
theorem orelative_any (s : ByteArray) (w : World) : Calls Tryd.prog 76 #[.string s] w fun e w' => e = .returned (.int .i64 (relP s.toList)) ∧ w = w' := by
  go_enter Tryd.func76, Tryd.ntmps76
  go_wp2
  all_goals go_ret
  all_goals refine ⟨?_, rfl⟩
  all_goals simp_all [relP]
set_option maxHeartbeats 4000000 in
theorem ochanges_any (s : ByteArray) (w : World) : Calls Tryd.prog 97 #[.string s] w fun e w' => e = .returned (.bool (chgP s.toList)) ∧ w = w' := by
  go_enter Tryd.func97, Tryd.ntmps97
  go_wp2
  all_goals go_ret
  all_goals refine ⟨?_, rfl⟩
  all_goals simp_all [chgP]
set_option maxHeartbeats 4000000 in
theorem ozero_any (s : ByteArray) (w : World) : Calls Tryd.prog 74 #[.string s] w fun e w' => e = .returned (.int .i64 (zerP s.toList)) ∧ w = w' := by
  have h1 := fun W => ohasprefix_any s ⟨#[82, 77, 66]⟩ W
  have h2 := fun W => ohasprefix_any s ⟨#[83, 77, 66]⟩ W
  have h3 := fun W => ochanges_any s W
  have ez : zerP s.toList = if hpL s.toList [82, 77, 66] = true then 7 else if hpL s.toList [83, 77, 66] = true then 7 else if chgP s.toList = true then 6 else 4 := rfl
  rw [show (⟨#[82, 77, 66]⟩ : ByteArray).toList = [82, 77, 66] from mkS_toList [82, 77, 66]] at h1
  rw [show (⟨#[83, 77, 66]⟩ : ByteArray).toList = [83, 77, 66] from mkS_toList [83, 77, 66]] at h2
  generalize hpL s.toList [82, 77, 66] = x1 at *
  generalize hpL s.toList [83, 77, 66] = x2 at *
  generalize chgP s.toList = x3 at *
  rw [ez]
  clear ez
  go_enter Tryd.func74, Tryd.ntmps74
  cases x1 <;> cases x2 <;> cases x3
  all_goals
    go_wp2_with (first
      | (go_at_call 67; refine (h1 _).mono ?_; clear h1; rintro e w' ⟨rfl, rfl⟩)
      | (go_at_call 67; refine (h2 _).mono ?_; rintro e w' ⟨rfl, rfl⟩)
      | (go_at_call 97; refine (h3 _).mono ?_; rintro e w' ⟨rfl, rfl⟩))
    go_ret
    exact ⟨rfl, rfl⟩
set_option maxHeartbeats 4000000 in
theorem oabsolute_any (s : ByteArray) (w : World) : Calls Tryd.prog 75 #[.string s] w fun e w' => e = .returned (.int .i64 (absP s.toList)) ∧ w = w' := by
  have h3 := fun W => ochanges_any s W
  have ez : absP s.toList = if chgP s.toList = true then 7 else if s.toList = [74, 83, 82] then 7 else if s.toList = [74, 77, 80] then 4 else 5 := rfl
  generalize chgP s.toList = x3 at *
  rw [ez]
  clear ez
  go_enter Tryd.func75, Tryd.ntmps75
  cases x3
  all_goals go_wp2_with (go_at_call 97; refine (h3 _).mono ?_; rintro e w' ⟨rfl, rfl⟩)
  all_goals go_ret
  all_goals refine ⟨?_, rfl⟩
  all_goals simp_all
set_option maxHeartbeats 4000000 in
theorem ocycles_any (s : ByteArray) (m : Int) (w : World) : Calls Tryd.prog 43 #[.string s, .int .u8 m] w fun e w' => e = .returned (.int .i64 (cycP s.toList m)) ∧ w = w' := by
  go_enter Tryd.func43, Tryd.ntmps43
  go_wp2_with (first
    | (go_at_call 72; refine (oimplied_any _ _).mono ?_; rintro e w' ⟨rfl, rfl⟩)
    | (go_at_call 73; refine (oimmediate_any _ _).mono ?_; rintro e w' ⟨rfl, rfl⟩)
    | (go_at_call 74; refine (ozero_any _ _).mono ?_; rintro e w' ⟨rfl, rfl⟩)
    | (go_at_call 75; refine (oabsolute_any _ _).mono ?_; rintro e w' ⟨rfl, rfl⟩)
    | (go_at_call 76; refine (orelative_any _ _).mono ?_; rintro e w' ⟨rfl, rfl⟩))
  all_goals go_ret
  all_goals refine ⟨?_, rfl⟩
  all_goals simp_all [cycP]
end Go.Proofs.YtleofglnlfpoeaaDoor
