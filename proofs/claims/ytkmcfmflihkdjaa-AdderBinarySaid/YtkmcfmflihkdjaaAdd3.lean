/-
  Adder: the answer's Add, Sub, Compare.
-/
import Derived.Test.YtkmcfmflihkdjaaAdd2
import Derived.Test.YtkmcfmflihkdjaaFlg4
namespace Go.Proofs.Ytkmcfmflihkdjaa
open Go.RowKit
set_option linter.unusedVariables false
set_option linter.unusedSimpArgs false
set_option maxRecDepth 100000
theorem fl_fin : ∀ p : Fin 256, ∀ on : Bool, rwith (p.val : Int) 0 on = flS (p.val : Int) 1 on ∧ rwith (p.val : Int) 6 on = flS (p.val : Int) 64 on ∧ rwith (p.val : Int) 7 on = flS (p.val : Int) 128 on ∧ rwith (p.val : Int) 1 on = flS (p.val : Int) 2 on := by decide +kernel
theorem fl_all (p : Int) (on : Bool) (p0 : 0 ≤ p) (p1 : p ≤ 255) : rwith p 0 on = flS p 1 on ∧ rwith p 6 on = flS p 64 on ∧ rwith p 7 on = flS p 128 on ∧ rwith p 1 on = flS p 2 on := by
  have := fl_fin ⟨p.toNat, by omega⟩ on
  rwa [show ((⟨p.toNat, by omega⟩ : Fin 256).val : Int) = p by simp; omega] at this
theorem fli_fin : ∀ p : Fin 256, rbit (p.val : Int) 0 = flI (p.val : Int) 1 ∧ rbit (p.val : Int) 3 = flI (p.val : Int) 8 := by decide +kernel
theorem fli_all (p : Int) (p0 : 0 ≤ p) (p1 : p ≤ 255) : rbit p 0 = flI p 1 ∧ rbit p 3 = flI p 8 := by
  have := fli_fin ⟨p.toNat, by omega⟩
  rwa [show ((⟨p.toNat, by omega⟩ : Fin 256).val : Int) = p by simp; omega] at this
section
variable (p : Int) (w : World) (p0 : 0 ≤ p) (p1 : p ≤ 255)
include p0 p1
theorem risC_any : Calls Try.prog 23 #[.int .u8 p, .int .i64 0] w fun e w' => e = .returned (.bool (flI p 1)) ∧ w = w' := by
  have := ris_any p 0 w p0 p1
  rwa [(fli_all p p0 p1).1] at this
theorem risD_any : Calls Try.prog 23 #[.int .u8 p, .int .i64 3] w fun e w' => e = .returned (.bool (flI p 8)) ∧ w = w' := by
  have := ris_any p 3 w p0 p1
  rwa [(fli_all p p0 p1).2] at this
theorem rsetC_any (on : Bool) : Calls Try.prog 53 #[.int .u8 p, .int .i64 0, .bool on] w fun e w' => e = .returned (.int .u8 (flS p 1 on)) ∧ Below w.heap.size w w' := by
  have := rfset_any p 0 on w p0 p1
  rwa [(fl_all p on p0 p1).1] at this
theorem rsetV_any (on : Bool) : Calls Try.prog 53 #[.int .u8 p, .int .i64 6, .bool on] w fun e w' => e = .returned (.int .u8 (flS p 64 on)) ∧ Below w.heap.size w w' := by
  have := rfset_any p 6 on w p0 p1
  rwa [(fl_all p on p0 p1).2.1] at this
theorem rres_any (v : Int) (v0 : 0 ≤ v) (v1 : v ≤ 255) : Calls Try.prog 35 #[.int .u8 p, .int .u8 v] w fun e w' => e = .returned (.int .u8 (flR p v)) ∧ Below w.heap.size w w' := by
  have := rfresult_any w p0 p1 v
  obtain ⟨b0, b1⟩ := flS_bd p 128 (decide (128 ≤ v))
  rw [(fl_all p _ p0 p1).2.2.1, (fl_all _ _ b0 b1).2.2.2, ← fbit7 v v0 v1] at this
  exact this
theorem rcarry_any : Calls Try.prog 52 #[.int .u8 p] w fun e w' => e = .returned (.int .i64 (oI (flI p 1))) ∧ w = w' := by
  obtain ⟨c, hc⟩ : ∃ c, flI p 1 = c := ⟨_, rfl⟩
  have HC := Lib.hid (risC_any p w p0 p1)
  rw [hc] at HC ⊢
  clear hc
  cases c
  all_goals
    go_enter Try.func52, Try.ntmps52
    go_wp2_with fail
    refine HC.out.mono ?_
    rintro e w' ⟨rfl, rfl⟩
    go_wp2_with fail
    go_ret
    exact ⟨rfl, rfl⟩
end
theorem rsgn_any (b : Int) (w : World) (h0 : 0 ≤ b) (h1 : b ≤ 255) : Calls Try.prog 54 #[.int .u8 b] w fun e w' => e = .returned (.int .i64 (sg b)) ∧ w = w' := rsigned_any b w h0 h1
set_option maxHeartbeats 4000000 in
theorem radd_any (a b p : Int) (w : World) (a0 : 0 ≤ a) (a1 : a ≤ 255) (b0 : 0 ≤ b) (b1 : b ≤ 255) (p0 : 0 ≤ p) (p1 : p ≤ 255) :
    Calls Try.prog 15 #[.int .u8 a, .int .u8 b, .int .u8 p] w fun e w' => e = .returned (.tuple #[.int .u8 (adV a b p), .int .u8 (adP a b p), .bool (flI p 8)]) ∧ Below w.heap.size w w' := by
  have D := fun W => risD_any p W p0 p1
  have CA := fun W => rcarry_any p W p0 p1
  obtain ⟨d, hd⟩ : ∃ d, flI p 8 = d := ⟨_, rfl⟩
  obtain ⟨x, hx⟩ : ∃ x, adV a b p = x := ⟨_, rfl⟩
  obtain ⟨y, hy⟩ : ∃ y, adP a b p = y := ⟨_, rfl⟩
  rw [hx, hy, hd]
  unfold adV at hx
  unfold adP at hy
  rw [hd] at hx hy D
  have P0 := Lib.hid p0
  have P1 := Lib.hid p1
  have HD := Lib.hid D
  obtain ⟨o0, o1⟩ := oI_bd (flI p 1)
  cases d with
  | true =>
    rw [if_pos rfl] at hx hy
    obtain ⟨o, ho⟩ : ∃ o, oI (flI p 1) = o := ⟨_, rfl⟩
    rw [ho] at CA o0 o1
    obtain ⟨lo, hl⟩ : ∃ lo, adL (a % 16) (b % 16) (flI p 1) = lo := ⟨_, rfl⟩
    obtain ⟨u, hu⟩ : ∃ u, adL (a / 16) (b / 16) (adC (a % 16) (b % 16) (flI p 1)) = u := ⟨_, rfl⟩
    have ex : x = u % 16 * 16 + lo % 16 := by rw [← hx]; unfold adVal; rw [hl, hu]; omega
    have eC : adCar a b (flI p 1) = decide (15 < u) := by unfold adCar; rw [← hu]; rfl
    rw [eC, hx] at hy
    have el : lo = if a % 16 + b % 16 + o ≤ 9 then a % 16 + b % 16 + o else a % 16 + b % 16 + o + 6 := by rw [← hl, ← ho]; rfl
    have eu : u = if a / 16 + b / 16 + (if 15 < lo then 1 else 0) ≤ 9 then a / 16 + b / 16 + (if 15 < lo then 1 else 0) else a / 16 + b / 16 + (if 15 < lo then 1 else 0) + 6 := by
      rw [← hu]; unfold adL adC oI; rw [hl]; simp only [decide_eq_true_eq]
    have EX := Lib.hid ex
    have EL := Lib.hid el
    have EU := Lib.hid eu
    have HCA := Lib.hid CA
    have HY := Lib.hid hy
    clear hd hx hy ho hl hu ex eC el eu CA D p0 p1
    go_enter Try.func15, Try.ntmps15
    go_wp2_with fail
    refine (HD.out _).mono ?_
    rintro e w' ⟨rfl, rfl⟩
    go_wp2_with fail
    refine (HCA.out _).mono ?_
    rintro e w' ⟨rfl, rfl⟩
    go_wp2_with fail
    all_goals
      refine (rsetC_any p _ P0.out P1.out _).mono ?_
      rintro e w1 ⟨rfl, b1⟩
      have HB1 := Lib.hid b1
      clear b1
      go_wp2_with fail
      refine (rres_any _ _ (flS_bd _ _ _).1 (flS_bd _ _ _).2 _ (by omega) (by omega)).mono ?_
      rintro e w2 ⟨rfl, b2⟩
      have HB2 := Lib.hid (HB1.out.trans (b2.mono HB1.out.size))
      clear b2
      go_wp2_with fail
      go_ret3
      have e1 := EL.out
      have e2 := EU.out
      first | rw [if_pos (show a % 16 + b % 16 + o ≤ 9 by omega)] at e1 | rw [if_neg (show ¬ a % 16 + b % 16 + o ≤ 9 by omega)] at e1
      rw [e1] at e2
      first | rw [if_pos (show 15 < a % 16 + b % 16 + o + 6 by omega)] at e2 | rw [if_neg (show ¬ 15 < a % 16 + b % 16 + o + 6 by omega)] at e2 | rw [if_neg (show ¬ 15 < a % 16 + b % 16 + o by omega)] at e2
      first | rw [if_pos (show a / 16 + b / 16 + 1 ≤ 9 by omega)] at e2 | rw [if_neg (show ¬ a / 16 + b / 16 + 1 ≤ 9 by omega)] at e2 | rw [if_pos (show a / 16 + b / 16 + 0 ≤ 9 by omega), Int.add_zero] at e2 | rw [if_neg (show ¬ a / 16 + b / 16 + 0 ≤ 9 by omega), Int.add_zero] at e2
      exact ⟨by rw [← HY.out, EX.out, e2, e1]; rfl, HB2.out⟩
  | false =>
    rw [if_neg (by decide)] at hx hy
    have SA := fun W => rsgn_any a W a0 a1
    have SB := fun W => rsgn_any b W b0 b1
    obtain ⟨s0, s1⟩ := sg_bd a a0 a1
    obtain ⟨t0, t1⟩ := sg_bd b b0 b1
    unfold bnP at hy
    rw [hx] at hy
    unfold bnV at hx
    obtain ⟨o, ho⟩ : ∃ o, oI (flI p 1) = o := ⟨_, rfl⟩
    rw [ho] at CA o0 o1 hx hy
    obtain ⟨s, hs⟩ : ∃ s, sg a = s := ⟨_, rfl⟩
    obtain ⟨t, ht⟩ : ∃ t, sg b = t := ⟨_, rfl⟩
    rw [hs] at SA s0 s1 hy
    rw [ht] at SB t0 t1 hy
    have wx : IntKind.u8.wrap ((a + b + o).tmod 256) = x := by rw [Int.tmod_eq_emod_of_nonneg (by omega), IntWalk.u8_in _ (by omega)]; exact hx
    have HCA := Lib.hid CA
    have HSA := Lib.hid SA
    have HSB := Lib.hid SB
    have HX := Lib.hid hx
    have HY := Lib.hid hy
    clear hd hx hy ho hs ht CA D SA SB p0 p1
    go_enter Try.func15, Try.ntmps15
    go_wp2_with fail
    refine (HD.out _).mono ?_
    rintro e w' ⟨rfl, rfl⟩
    go_wp2_with fail
    refine (HCA.out _).mono ?_
    rintro e w' ⟨rfl, rfl⟩
    go_wp2_with fail
    refine (HSA.out _).mono ?_
    rintro e w' ⟨rfl, rfl⟩
    go_wp2_with fail
    refine (HSB.out _).mono ?_
    rintro e w' ⟨rfl, rfl⟩
    go_wp2_with fail
    refine (HCA.out _).mono ?_
    rintro e w' ⟨rfl, rfl⟩
    go_wp2_with fail
    refine (rsetC_any p _ P0.out P1.out _).mono ?_
    rintro e w1 ⟨rfl, b1⟩
    have HB1 := Lib.hid b1
    clear b1
    go_wp2_with fail
    all_goals
      refine (rsetV_any _ _ (flS_bd _ _ _).1 (flS_bd _ _ _).2 _).mono ?_
      rintro e w2 ⟨rfl, b2⟩
      have HB2 := Lib.hid (HB1.out.trans (b2.mono HB1.out.size))
      clear b2
      go_wp2_with fail
      refine (rres_any _ _ (flS_bd _ _ _).1 (flS_bd _ _ _).2 _ (by omega) (by omega)).mono ?_
      rintro e w3 ⟨rfl, b3⟩
      have HB3 := Lib.hid (HB2.out.trans (b3.mono HB2.out.size))
      clear b3
      go_wp2_with fail
      go_ret3
      refine ⟨?_, HB3.out⟩
      rw [← HY.out, ← HX.out]
      first | rfl | (rw [show decide (s + t + o < -128) = true by simpa using ‹s + t + o < -128›]; rfl)
theorem sbC_eq (x y : Int) (c : Bool) : sbC x y c = !decide (x - y - 1 + oI c < 0) := by
  unfold sbC oI
  cases c
  · simp only [Bool.not_false, if_true, Bool.false_eq_true, if_false]; rw [← decide_not]; congr 1; simp <;> omega
  · simp only [Bool.not_true, if_true, Bool.false_eq_true, if_false]; rw [← decide_not]; congr 1; simp <;> omega
theorem sbL_eq (x y : Int) (c : Bool) : sbL x y c = if x - y - 1 + oI c < 0 then x - y - 1 + oI c + 10 else x - y - 1 + oI c := by
  unfold sbL oI
  cases c
  · simp only [Bool.not_false, if_true, Bool.false_eq_true, if_false]; split <;> split <;> omega
  · simp only [Bool.not_true, if_true, Bool.false_eq_true, if_false]; split <;> split <;> omega
set_option maxHeartbeats 4000000 in
theorem rsub_any (a b p : Int) (w : World) (a0 : 0 ≤ a) (a1 : a ≤ 255) (b0 : 0 ≤ b) (b1 : b ≤ 255) (p0 : 0 ≤ p) (p1 : p ≤ 255) :
    Calls Try.prog 16 #[.int .u8 a, .int .u8 b, .int .u8 p] w fun e w' => e = .returned (.tuple #[.int .u8 (sbV a b p), .int .u8 (sbP a b p), .bool (flI p 8)]) ∧ Below w.heap.size w w' := by
  have D := fun W => risD_any p W p0 p1
  have CA := fun W => rcarry_any p W p0 p1
  have AD := fun W => radd_any a (255 - b) p W a0 a1 (by omega) (by omega) p0 p1
  obtain ⟨d, hd⟩ : ∃ d, flI p 8 = d := ⟨_, rfl⟩
  obtain ⟨x, hx⟩ : ∃ x, sbV a b p = x := ⟨_, rfl⟩
  obtain ⟨y, hy⟩ : ∃ y, sbP a b p = y := ⟨_, rfl⟩
  rw [hx, hy, hd]
  unfold adV adP at AD
  unfold sbV at hx
  unfold sbP at hy
  rw [hd] at hx hy D AD
  have P0 := Lib.hid p0
  have P1 := Lib.hid p1
  have HD := Lib.hid D
  cases d with
  | false =>
    rw [if_neg (by decide)] at hx hy
    simp only [Bool.false_eq_true, if_false, hx, hy] at AD
    have HAD := Lib.hid AD
    clear AD hx hy hd D CA p0 p1
    go_enter Try.func16, Try.ntmps16
    go_wp2_with fail
    refine (HD.out _).mono ?_
    rintro e w' ⟨rfl, rfl⟩
    go_wp2_with fail
    refine (HAD.out _).mono ?_
    rintro e w1 ⟨rfl, b1⟩
    go_wp2_with fail
    go_ret3
    exact ⟨rfl, b1⟩
  | true =>
    clear AD
    rw [if_pos rfl] at hx hy
    obtain ⟨o0, o1⟩ := oI_bd (flI p 1)
    obtain ⟨c1, hc⟩ : ∃ c1, sbC (a % 16) (b % 16) (flI p 1) = c1 := ⟨_, rfl⟩
    obtain ⟨lo, hl⟩ : ∃ lo, sbL (a % 16) (b % 16) (flI p 1) = lo := ⟨_, rfl⟩
    obtain ⟨u, hu⟩ : ∃ u, sbL (a / 16) (b / 16) c1 = u := ⟨_, rfl⟩
    have ex : x = (u + 32) % 16 * 16 + (lo + 32) % 16 := by rw [← hx]; unfold sbVal; rw [hc, hl, hu]; omega
    have eC : sbCar a b (flI p 1) = !decide (a / 16 - b / 16 - 1 + oI c1 < 0) := by unfold sbCar; rw [hc]; exact sbC_eq _ _ _
    rw [eC, hx] at hy
    have er : oI c1 = if a % 16 - b % 16 - 1 + oI (flI p 1) < 0 then 0 else 1 := by rw [← hc, sbC_eq]; unfold oI; simp only [Bool.not_eq_true', decide_eq_false_iff_not]; split <;> split <;> first | rfl | omega
    rw [sbL_eq] at hl hu
    obtain ⟨r, hr⟩ : ∃ r, oI c1 = r := ⟨_, rfl⟩
    obtain ⟨o, ho⟩ : ∃ o, oI (flI p 1) = o := ⟨_, rfl⟩
    rw [ho] at CA o0 o1 hl er
    rw [hr] at hu hy er
    have HCA := Lib.hid CA
    have EX := Lib.hid ex
    have HY := Lib.hid hy
    have EL := Lib.hid hl
    have EU := Lib.hid hu
    have ER := Lib.hid er
    clear hd hx hy ho hl hu hr hc ex eC er CA D p0 p1
    go_enter Try.func16, Try.ntmps16
    go_wp2_with fail
    refine (HD.out _).mono ?_
    rintro e w' ⟨rfl, rfl⟩
    go_wp2_with fail
    refine (HCA.out _).mono ?_
    rintro e w' ⟨rfl, rfl⟩
    go_wp2_with fail
    all_goals
      refine (rsetC_any p _ P0.out P1.out _).mono ?_
      rintro e w1 ⟨rfl, b1⟩
      have HB1 := Lib.hid b1
      clear b1
      go_wp2_with fail
      refine (rres_any _ _ (flS_bd _ _ _).1 (flS_bd _ _ _).2 _ (by omega) (by omega)).mono ?_
      rintro e w2 ⟨rfl, b2⟩
      have HB2 := Lib.hid (HB1.out.trans (b2.mono HB1.out.size))
      clear b2
      go_wp2_with fail
      go_ret3
      have e1 := EL.out
      have e2 := EU.out
      have e3 := ER.out
      first | rw [if_pos (show a % 16 - b % 16 - 1 + o < 0 by omega)] at e1 e3 | rw [if_neg (show ¬ a % 16 - b % 16 - 1 + o < 0 by omega)] at e1 e3
      subst e3
      refine ⟨?_, HB2.out⟩
      have hy := HY.out
      first | rw [Int.add_zero] at e2 hy | rw [show a / 16 - b / 16 - 1 + 1 = a / 16 - b / 16 by omega] at e2 hy
      first
        | (rw [if_pos (show a / 16 - b / 16 - 1 < 0 by omega)] at e2; rw [show decide (a / 16 - b / 16 - 1 < 0) = true from decide_eq_true (by omega)] at hy)
        | rw [if_neg (show ¬ a / 16 - b / 16 - 1 < 0 by omega)] at e2
        | (rw [if_pos (show a / 16 - b / 16 < 0 by omega)] at e2; rw [show decide (a / 16 - b / 16 < 0) = true from decide_eq_true (by omega)] at hy)
        | rw [if_neg (show ¬ a / 16 - b / 16 < 0 by omega)] at e2
      rw [← hy, EX.out, ← e2, ← e1]
      rfl
theorem rcompare_any (r b p : Int) (w : World) (r0 : 0 ≤ r) (r1 : r ≤ 255) (b0 : 0 ≤ b) (b1 : b ≤ 255) (p0 : 0 ≤ p) (p1 : p ≤ 255) :
    Calls Try.prog 18 #[.int .u8 r, .int .u8 b, .int .u8 p] w fun e w' => e = .returned (.int .u8 (flR (flS p 1 (decide (b ≤ r))) ((r - b) % 256))) ∧ Below w.heap.size w w' := by
  obtain ⟨d, hd⟩ : ∃ d, (r - b) % 256 = d := ⟨_, rfl⟩
  have h1 : (r + 256 - b) % 256 = d := by omega
  have h2 : 0 ≤ d := by omega
  have h3 : d ≤ 255 := by omega
  have P0 := Lib.hid p0
  have P1 := Lib.hid p1
  rw [hd]
  clear hd p0 p1
  go_enter Try.func18, Try.ntmps18
  go_wp2_with fail
  refine (rsetC_any p _ P0.out P1.out _).mono ?_
  rintro e w1 ⟨rfl, b1⟩
  have HB1 := Lib.hid b1
  clear b1
  go_wp2_with fail
  refine (rres_any _ _ (flS_bd _ _ _).1 (flS_bd _ _ _).2 _ (by omega) (by omega)).mono ?_
  rintro e w2 ⟨rfl, b2⟩
  have HB2 := Lib.hid (HB1.out.trans (b2.mono HB1.out.size))
  clear b2
  go_wp2_with fail
  go_ret
  exact ⟨rfl, HB2.out⟩
end Go.Proofs.Ytkmcfmflihkdjaa
