/-
  What the reference of phys answers: Bank, Off, Where, Extra, Reg; the same as phys.
-/
import Derived.Test.YtnelcbbjnpaodaaDoorPhys1
namespace Go.Proofs.YtnelcbbjnpaodaaDoor
open Go.RowKit
set_option linter.unusedVariables false
set_option maxHeartbeats 400000 in
theorem rbank_any (a : Int) (w : World) (a0 : 0 ≤ a) (a1 : a ≤ 4294967295) :
    Calls Tryd.prog 34 #[.int .u32 a] w fun e w' => e = .returned (.int .i64 (bankI a)) ∧ w = w' := by
  unfold bankI
  go_enter Tryd.func34, Tryd.ntmps34
  go_wp2
  go_ret
  exact ⟨rfl, rfl⟩
set_option maxHeartbeats 400000 in
theorem roff_any (a : Int) (w : World) (a0 : 0 ≤ a) (a1 : a ≤ 4294967295) :
    Calls Tryd.prog 35 #[.int .u32 a] w fun e w' => e = .returned (.int .i64 (offI a)) ∧ w = w' := by
  unfold offI
  go_enter Tryd.func35, Tryd.ntmps35
  go_wp2
  go_ret
  exact ⟨rfl, rfl⟩
theorem bankI_bd (a : Int) : 0 ≤ bankI a ∧ bankI a ≤ 255 := by unfold bankI; omega
theorem offI_bd (a : Int) : 0 ≤ offI a ∧ offI a ≤ 8191 := by unfold offI; omega
theorem where_rom (a : Int) (h : bankI a < 128) : whereI a = 0 := by
  have : a % 2097152 < 1048576 := by unfold bankI at h; omega
  unfold whereI partAt; rw [if_pos this]; rfl
theorem where_open1 (a : Int) (h0 : 128 ≤ bankI a) (h1 : bankI a < 248) : whereI a = 2 := by
  unfold bankI at h0 h1; unfold whereI partAt; rw [if_neg (by omega), if_pos (by omega)]; rfl
theorem where_ram (a : Int) (h0 : 248 ≤ bankI a) (h1 : bankI a ≤ 251) : whereI a = 1 := by
  unfold bankI at h0 h1; unfold whereI partAt; rw [if_neg (by omega), if_neg (by omega), if_pos (by omega)]; rfl
theorem where_open2 (a : Int) (h0 : 252 ≤ bankI a) (h1 : bankI a < 255) : whereI a = 2 := by
  unfold bankI at h0 h1; unfold whereI partAt; rw [if_neg (by omega), if_neg (by omega), if_neg (by omega), if_pos (by omega)]; rfl
theorem where_open3 (a : Int) (h0 : bankI a = 255) (h1 : 6144 ≤ offI a) : whereI a = 2 := by
  unfold bankI at h0; unfold offI at h1; unfold whereI partAt
  rw [if_neg (by omega), if_neg (by omega), if_neg (by omega), if_neg (by omega), if_neg (by omega), if_neg (by omega), if_neg (by omega), if_neg (by omega), if_neg (by omega), if_neg (by omega)]; rfl
theorem where_unit (a : Int) (h0 : bankI a = 255) (h1 : offI a < 6144) : whereI a = 3 + offI a / 1024 := by
  unfold bankI at h0; unfold offI at h1 ⊢; unfold whereI partAt
  (repeat' split) <;> simp only [kindN] <;> omega
def unitC : Array Value := #[.int .u8 3, .int .u8 4, .int .u8 5, .int .u8 6, .int .u8 7, .int .u8 8]
set_option maxHeartbeats 2000000 in
theorem rwhere_any (a : Int) (w : World) (a0 : 0 ≤ a) (a1 : a ≤ 4294967295) :
    Calls Tryd.prog 24 #[.int .u32 a] w fun e w' => e = .returned (.int .u8 (whereI a)) ∧ Below w.heap.size w w' := by
  have W1 := where_rom a
  have W2 := where_open1 a
  have W3 := where_ram a
  have W4 := where_open2 a
  have W5 := where_open3 a
  have W6 := where_unit a
  have bb := bankI_bd a
  have ob := offI_bd a
  obtain ⟨b, hb⟩ : ∃ b, bankI a = b := ⟨_, rfl⟩
  obtain ⟨o, ho⟩ : ∃ o, offI a = o := ⟨_, rfl⟩
  obtain ⟨x, hx⟩ : ∃ x, whereI a = x := ⟨_, rfl⟩
  rw [hb, hx] at W1 W2 W3 W4 W5 W6
  rw [ho] at W5 W6
  rw [hb] at bb
  rw [ho] at ob
  rw [hx]
  have HB := Lib.hid hb
  have HO := Lib.hid ho
  clear hb ho hx
  by_cases c1 : b < 128
  · obtain rfl := W1 c1
    clear W1 W2 W3 W4 W5 W6
    go_enter Tryd.func24, Tryd.ntmps24
    go_wp2_with (first | (go_at_call 34; refine (rbank_any _ _ a0 a1).mono ?_; rw [HB.out]; rintro e w' ⟨rfl, rfl⟩) | (go_at_call 35; refine (roff_any _ _ a0 a1).mono ?_; rw [HO.out]; rintro e w' ⟨rfl, rfl⟩))
    go_ret
    exact ⟨rfl, Below.refl _ _⟩
  have c1' : 128 ≤ b := by omega
  clear c1 W1
  by_cases c2 : b < 248
  · obtain rfl := W2 c1' c2
    have d1 : decide (248 ≤ b) = false := by simp; omega
    have d2 : (b != 255) = true := by rw [bne_iff_ne]; omega
    clear W2 W3 W4 W5 W6
    go_enter Tryd.func24, Tryd.ntmps24
    go_wp2_with (first | (go_at_call 34; refine (rbank_any _ _ a0 a1).mono ?_; rw [HB.out]; rintro e w' ⟨rfl, rfl⟩) | (go_at_call 35; refine (roff_any _ _ a0 a1).mono ?_; rw [HO.out]; rintro e w' ⟨rfl, rfl⟩))
    go_ret
    exact ⟨rfl, Below.refl _ _⟩
  have c2' : 248 ≤ b := by omega
  clear c2 W2
  by_cases c3 : b ≤ 251
  · obtain rfl := W3 c2' c3
    clear W3 W4 W5 W6
    go_enter Tryd.func24, Tryd.ntmps24
    go_wp2_with (first | (go_at_call 34; refine (rbank_any _ _ a0 a1).mono ?_; rw [HB.out]; rintro e w' ⟨rfl, rfl⟩) | (go_at_call 35; refine (roff_any _ _ a0 a1).mono ?_; rw [HO.out]; rintro e w' ⟨rfl, rfl⟩))
    go_ret
    exact ⟨rfl, Below.refl _ _⟩
  have c3' : 252 ≤ b := by omega
  have d1 : decide (b ≤ 251) = false := by simp; omega
  clear c3 W3
  by_cases c4 : b < 255
  · obtain rfl := W4 c3' c4
    have d2 : (b != 255) = true := by rw [bne_iff_ne]; omega
    clear W4 W5 W6
    go_enter Tryd.func24, Tryd.ntmps24
    go_wp2_with (first | (go_at_call 34; refine (rbank_any _ _ a0 a1).mono ?_; rw [HB.out]; rintro e w' ⟨rfl, rfl⟩) | (go_at_call 35; refine (roff_any _ _ a0 a1).mono ?_; rw [HO.out]; rintro e w' ⟨rfl, rfl⟩))
    go_ret
    exact ⟨rfl, Below.refl _ _⟩
  obtain rfl : b = 255 := by omega
  clear c4 W4 d1
  by_cases c5 : 6144 ≤ o
  · obtain rfl := W5 rfl c5
    clear W5 W6
    go_enter Tryd.func24, Tryd.ntmps24
    go_wp2_with (first | (go_at_call 34; refine (rbank_any _ _ a0 a1).mono ?_; rw [HB.out]; rintro e w' ⟨rfl, rfl⟩) | (go_at_call 35; refine (roff_any _ _ a0 a1).mono ?_; rw [HO.out]; rintro e w' ⟨rfl, rfl⟩))
    go_ret
    exact ⟨rfl, Below.refl _ _⟩
  have c5' : o < 6144 := by omega
  have d2 : decide (6144 ≤ o) = false := by simp; omega
  obtain rfl := W6 rfl c5'
  clear c5 W5 W6
  have : o / 1024 = 0 ∨ o / 1024 = 1 ∨ o / 1024 = 2 ∨ o / 1024 = 3 ∨ o / 1024 = 4 ∨ o / 1024 = 5 := by omega
  rcases this with hk | hk | hk | hk | hk | hk
  all_goals
    go_enter Tryd.func24, Tryd.ntmps24
    go_wp2_with (first | (go_at_call 34; refine (rbank_any _ _ a0 a1).mono ?_; rw [HB.out]; rintro e w' ⟨rfl, rfl⟩) | (go_at_call 35; refine (roff_any _ _ a0 a1).mono ?_; rw [HO.out]; rintro e w' ⟨rfl, rfl⟩))
    go_ret
    exact ⟨by simp [hk], by go_grown⟩
end Go.Proofs.YtnelcbbjnpaodaaDoor
