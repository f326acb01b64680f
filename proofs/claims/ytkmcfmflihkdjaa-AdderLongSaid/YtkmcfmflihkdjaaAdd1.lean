/-
  Adder: one digit added, or taken away (closures that keep the carry); decimal, binary, Add, Sub, Compare.
-/
import Derived.Test.YtkmcfmflihkdjaaFlg1
import Derived.Test.YtkmcfmflihkdjaaG12
import Derived.ScopeJumps
import Derived.WalkMore
namespace Go.Proofs.Ytkmcfmflihkdjaa
open Go.RowKit
set_option linter.unusedVariables false
set_option linter.unusedSimpArgs false
set_option maxRecDepth 100000
def oI (b : Bool) : Int := if b then 1 else 0
theorem oI_bd (b : Bool) : 0 ≤ oI b ∧ oI b ≤ 1 := by cases b <;> simp [oI]
/-- P with N and Z by a byte. -/
def flR (p v : Int) : Int := flS (flS p 128 (bitB v 7)) 2 (v == 0)
/-- Two digits' sum, put right. -/
def adL (a b : Int) (c : Bool) : Int := if a + b + oI c ≤ 9 then a + b + oI c else a + b + oI c + 6
/-- Does a sum carry? -/
def adC (a b : Int) (c : Bool) : Bool := decide (15 < adL a b c)
/-- Is nothing borrowed? -/
def sbC (a b : Int) (c : Bool) : Bool := decide (oI (!c) ≤ a - b)
/-- Two digits' difference, put right. -/
def sbL (a b : Int) (c : Bool) : Int := if oI (!c) ≤ a - b then a - b - oI (!c) else a - b - oI (!c) + 10
theorem aone_any (b : Bool) (w : World) : Calls Try.prog 68 #[.bool b] w fun e w' => e = .returned (.int .i64 (oI b)) ∧ w = w' := by
  cases b
  all_goals
    go_enter Try.func68, Try.ntmps68
    go_wp2
    go_ret
    exact ⟨rfl, rfl⟩
def Box (w : World) (g : Nat) (c : Bool) : Prop := Blk w g 4 #[.bool c]
theorem box_set {w : World} {g : Nat} {c : Bool} (h : Box w g c) (d : Bool) : Box (w.setCell ⟨g, 0, none⟩ (.bool d)).drew g d := (Blk.set_ h 0 (.bool d)).drew_
theorem kp_set (w : World) (g : Nat) (v : Value) : Kp [g] w (w.setCell ⟨g, 0, none⟩ v).drew := Kp.drew (Kp.setCell (Kp.refl [g] w) (.inl (List.mem_singleton.2 rfl)) v)
def AddR (g : Nat) (d : Int) (c : Bool) (w : World) (e : Ending) (w' : World) : Prop := e = .returned (.tuple #[.int .u8 d, .bool c]) ∧ Box w' g c ∧ Kp [g] w w'
set_option maxHeartbeats 4000000 in
theorem aadd_any (a b : Int) (c : Bool) (w : World) (g : Nat) (a0 : 0 ≤ a) (a1 : a ≤ 15) (b0 : 0 ≤ b) (b1 : b ≤ 15) (h : Box w g c) :
    Calls Try.prog 67 #[.int .u8 a, .int .u8 b, .pointer (some ⟨g, 0, none⟩)] w (AddR g (adL a b c % 16) (adC a b c) w) := by
  obtain ⟨o0, o1⟩ := oI_bd c
  have lt := Blk.lt h
  have c0 : w.cell? ⟨g, 0, none⟩ = some (.bool c) := Blk.cell h 0
  have f0 : w.frozen? ⟨g, 0, none⟩ = false := Blk.frozen h 0
  obtain ⟨q, hq⟩ : ∃ q, adL a b c = q := ⟨_, rfl⟩
  obtain ⟨d, hd⟩ : ∃ d, adC a b c = d := ⟨_, rfl⟩
  rw [hq, hd]
  unfold adC at hd
  rw [hq] at hd
  subst hd
  unfold adL at hq
  obtain ⟨o, ho⟩ : ∃ o, oI c = o := ⟨_, rfl⟩
  rw [ho] at hq o0 o1
  have q0 : 0 ≤ q := by rw [← hq]; split <;> omega
  have q1 : q ≤ 37 := by rw [← hq]; split <;> omega
  have HB := Lib.hid h
  have HO := Lib.hid ho
  have HQ := Lib.hid hq
  clear hq ho h
  go_enter Try.func67, Try.ntmps67
  go_wp2
  refine wp_scope_jumps 0 (fun a' w' => w' = w ∧ ∃ u8 u9 u10 u11 u12 u13 u14 u15 u16 u17 u18 u19 u20 u21 u22 u23 u24 u25, a' = { tmps := #[.int .u8 a, .int .u8 b, .pointer (some ⟨g, 0, none⟩), undef, undef, .int .u8 0, .bool false, .int .i64 (q), u8, u9, u10, u11, u12, u13, u14, u15, u16, u17, u18, u19, u20, u21, u22, u23, u24, u25], defers := [] }) (fun _ _ => 0) rfl ?_ ?_
  · go_wp2_with (go_at_call 68; refine (aone_any _ _).mono ?_; rw [HO.out]; rintro e w' ⟨rfl, rfl⟩)
    · rename_i hle
      have e : a + b + o = q := by rw [← HQ.out, if_pos hle]
      go_step3
      rw [e]
      exact ⟨rfl, rfl, _, _, _, _, _, _, _, _, _, _, _, _, _, _, _, _, _, _, rfl⟩
    · have hle : 9 < a + b + o := by assumption
      have e : a + b + o + 6 = q := by rw [← HQ.out, if_neg (by omega)]
      go_step3
      rw [e]
      go_wp2
      go_region
      all_goals
        go_wp2
        simp only [Exit.jump]
        go_ret2
        exact ⟨rfl, box_set HB.out _, kp_set _ _ _⟩
  · rintro a' w' ⟨rfl, u8, u9, u10, u11, u12, u13, u14, u15, u16, u17, u18, u19, u20, u21, u22, u23, u24, u25, rfl⟩
    go_wp2
    go_region
    all_goals
      go_wp2
      simp only [Exit.jump]
      go_ret2
      exact ⟨rfl, box_set HB.out _, kp_set _ _ _⟩
set_option maxHeartbeats 4000000 in
theorem asub_any (a b : Int) (c : Bool) (w : World) (g : Nat) (a0 : 0 ≤ a) (a1 : a ≤ 15) (b0 : 0 ≤ b) (b1 : b ≤ 15) (h : Box w g c) :
    Calls Try.prog 70 #[.int .u8 a, .int .u8 b, .pointer (some ⟨g, 0, none⟩)] w (AddR g (sbL a b c % 16) (sbC a b c) w) := by
  obtain ⟨o0, o1⟩ := oI_bd (!c)
  have lt := Blk.lt h
  have c0 : w.cell? ⟨g, 0, none⟩ = some (.bool c) := Blk.cell h 0
  have f0 : w.frozen? ⟨g, 0, none⟩ = false := Blk.frozen h 0
  obtain ⟨q, hq⟩ : ∃ q, sbL a b c = q := ⟨_, rfl⟩
  obtain ⟨d, hd⟩ : ∃ d, sbC a b c = d := ⟨_, rfl⟩
  rw [hq, hd]
  unfold sbC at hd
  unfold sbL at hq
  obtain ⟨o, ho⟩ : ∃ o, oI (!c) = o := ⟨_, rfl⟩
  rw [ho] at hq hd o0 o1
  subst hd
  have q0 : -10 ≤ q := by rw [← hq]; split <;> omega
  have q1 : q ≤ 37 := by rw [← hq]; split <;> omega
  have m16 : (q % 256).tmod 16 = q % 16 := by rw [Int.tmod_eq_emod_of_nonneg (by omega)]; omega
  have HB := Lib.hid h
  have HO := Lib.hid ho
  have HQ := Lib.hid hq
  have HM := Lib.hid m16
  clear hq ho h m16
  go_enter Try.func70, Try.ntmps70
  go_wp2
  refine wp_scope_jumps 0 (fun a' w' => w' = w.setCell ⟨g, 0, none⟩ (.bool (decide (o ≤ a - b))) ∧ ∃ u8 u9 u10 u11 u12 u13 u14 u15 u16 u17 u18 u19 u20 u21 u22 u23 u24 u25, a' = { tmps := #[.int .u8 a, .int .u8 b, .pointer (some ⟨g, 0, none⟩), undef, undef, .int .u8 0, .bool false, .int .i64 (q), u8, u9, u10, u11, u12, u13, u14, u15, u16, u17, u18, u19, u20, u21, u22, u23, u24, u25], defers := [] }) (fun _ _ => 0) rfl ?_ ?_
  · go_wp2_with (go_at_call 68; refine (aone_any _ _).mono ?_; rw [HO.out]; rintro e w' ⟨rfl, rfl⟩)
    · have hle : o ≤ a - b := by assumption
      have e : a - b - o = q := by rw [← HQ.out, if_pos hle]
      go_step3
      rw [e]
      exact ⟨rfl, rfl, _, _, _, _, _, _, _, _, _, _, _, _, _, _, _, _, _, _, rfl⟩
    · have hle : a - b < o := by assumption
      have e : a - b - o + 10 = q := by rw [← HQ.out, if_neg (by omega)]
      go_step3
      rw [e]
      go_wp2
      have m16 := HM.out
      go_region
      all_goals
        go_wp2
        simp only [Exit.jump]
        go_ret2
        exact ⟨rfl, box_set HB.out _, kp_set _ _ _⟩
  · rintro a' w' ⟨rfl, u8, u9, u10, u11, u12, u13, u14, u15, u16, u17, u18, u19, u20, u21, u22, u23, u24, u25, rfl⟩
    go_wp2
    have m16 := HM.out
    go_region
    all_goals
      go_wp2
      simp only [Exit.jump]
      go_ret2
      exact ⟨rfl, box_set HB.out _, kp_set _ _ _⟩
end Go.Proofs.Ytkmcfmflihkdjaa
