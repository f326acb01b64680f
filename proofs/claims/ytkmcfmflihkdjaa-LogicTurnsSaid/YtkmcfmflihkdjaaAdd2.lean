/-
  Adder: decimal, binary, Add, Sub, Compare.
-/
import Derived.Test.YtkmcfmflihkdjaaAdd1
namespace Go.Proofs.Ytkmcfmflihkdjaa
open Go.RowKit
set_option linter.unusedVariables false
set_option linter.unusedSimpArgs false
set_option maxRecDepth 100000
def adVal (a b : Int) (c : Bool) : Int := 16 * (adL (a / 16) (b / 16) (adC (a % 16) (b % 16) c) % 16) + adL (a % 16) (b % 16) c % 16
def adCar (a b : Int) (c : Bool) : Bool := adC (a / 16) (b / 16) (adC (a % 16) (b % 16) c)
def sbVal (a b : Int) (c : Bool) : Int := 16 * (sbL (a / 16) (b / 16) (sbC (a % 16) (b % 16) c) % 16) + sbL (a % 16) (b % 16) c % 16
def sbCar (a b : Int) (c : Bool) : Bool := sbC (a / 16) (b / 16) (sbC (a % 16) (b % 16) c)
theorem adVal_bd (a b : Int) (c : Bool) : 0 ≤ adVal a b c ∧ adVal a b c ≤ 255 := by unfold adVal; omega
theorem sbVal_bd (a b : Int) (c : Bool) : 0 ≤ sbVal a b c ∧ sbVal a b c ≤ 255 := by unfold sbVal; omega
/-- A byte as a number with a sign. -/
def sg (b : Int) : Int := if 127 < b then b - 256 else b
theorem sg_bd (b : Int) (h0 : 0 ≤ b) (h1 : b ≤ 255) : -128 ≤ sg b ∧ sg b ≤ 127 := by unfold sg; split <;> omega
theorem sg_fin : ∀ b : Fin 256, IntKind.i8.wrap (b.val : Int) = sg (b.val : Int) := by decide +kernel
theorem asigned_any (b : Int) (w : World) (h0 : 0 ≤ b) (h1 : b ≤ 255) : Calls Try.prog 69 #[.int .u8 b] w fun e w' => e = .returned (.int .i64 (sg b)) ∧ w = w' := by
  have e1 : IntKind.i8.wrap b = sg b := by
    have := sg_fin ⟨b.toNat, by omega⟩
    rwa [show ((⟨b.toNat, by omega⟩ : Fin 256).val : Int) = b by simp; omega] at this
  obtain ⟨s0, s1⟩ := sg_bd b h0 h1
  refine (signed_any b w).mono ?_
  rintro e w' ⟨rfl, rfl⟩
  rw [e1, show wrap64 (sg b) = sg b by simp only [wrap64]; omega]
  exact ⟨rfl, rfl⟩
def bnV (a b : Int) (c : Bool) : Int := (a + b + oI c) % 256
def bnP (a b p : Int) : Int := flR (flS (flS p 1 (decide (255 < a + b + oI (flI p 1)))) 64 (decide (sg a + sg b + oI (flI p 1) < -128) || decide (127 < sg a + sg b + oI (flI p 1)))) (bnV a b (flI p 1))
def DecR (g : Nat) (v q : Int) (w : World) (e : Ending) (w' : World) : Prop := e = .returned (.tuple #[.int .u8 v, .int .u8 q, .bool true]) ∧ Kp [g] w w'
set_option maxHeartbeats 4000000 in
theorem adec_any (a b p : Int) (c : Bool) (w : World) (g : Nat) (a0 : 0 ≤ a) (a1 : a ≤ 255) (b0 : 0 ≤ b) (b1 : b ≤ 255) (h : Box w g c) :
    Calls Try.prog 48 #[.int .u8 a, .int .u8 b, .int .u8 p, .func (.func 67) #[] #[.pointer (some ⟨g, 0, none⟩)]] w (DecR g (adVal a b c) (flR (flS p 1 (adCar a b c)) (adVal a b c)) w) := by
  obtain ⟨c1, h1⟩ : ∃ c1, adC (a % 16) (b % 16) c = c1 := ⟨_, rfl⟩
  obtain ⟨l, hl⟩ : ∃ l, adL (a % 16) (b % 16) c % 16 = l := ⟨_, rfl⟩
  obtain ⟨u, hu⟩ : ∃ u, adL (a / 16) (b / 16) c1 % 16 = u := ⟨_, rfl⟩
  obtain ⟨c2, h2⟩ : ∃ c2, adC (a / 16) (b / 16) c1 = c2 := ⟨_, rfl⟩
  have e1 : adVal a b c = 16 * u + l := by unfold adVal; rw [h1, hl, hu]
  have e2 : adCar a b c = c2 := by unfold adCar; rw [h1, h2]
  have l0 : 0 ≤ l := by omega
  have l1 : l ≤ 15 := by omega
  have u0 : 0 ≤ u := by omega
  have u1 : u ≤ 15 := by omega
  rw [e1, e2]
  have C1 := aadd_any (a % 16) (b % 16) c w g (by omega) (by omega) (by omega) (by omega) h
  rw [hl, h1] at C1
  have C2 : ∀ W : World, Box W g c1 → Calls Try.prog 67 #[.int .u8 (a / 16), .int .u8 (b / 16), .pointer (some ⟨g, 0, none⟩)] W (AddR g u c2 W) := fun W hW => by
    have := aadd_any (a / 16) (b / 16) c1 W g (by omega) (by omega) (by omega) (by omega) hW
    rwa [hu, h2] at this
  have HC1 := Lib.hid C1
  have HC2 := Lib.hid C2
  clear C1 C2 h1 hl hu h2 e1 e2 h
  go_enter Try.func48, Try.ntmps48
  go_wp2_with fail
  refine HC1.out.mono ?_
  rintro e w1 ⟨rfl, b1, k1⟩
  have HB1 := Lib.hid b1
  have HK1 := Lib.hid k1
  clear b1 k1
  go_wp2_with fail
  refine (HC2.out _ HB1.out).mono ?_
  rintro e w2 ⟨rfl, b2, k2⟩
  have HK2 := Lib.hid (HK1.out.trans k2 (fun x hx => .inl hx))
  clear b2 k2
  go_wp2_with (first | (go_at_call 56; refine (fset_any _ _ _ _).mono ?_; rintro e w' ⟨rfl, rfl⟩) | (go_at_call 55; refine (fresult_any _ _ _).mono ?_; rintro e w' ⟨rfl, rfl⟩))
  go_ret3
  exact ⟨rfl, HK2.out⟩
set_option maxHeartbeats 4000000 in
theorem sdec_any (a b p : Int) (c : Bool) (w : World) (g : Nat) (a0 : 0 ≤ a) (a1 : a ≤ 255) (b0 : 0 ≤ b) (b1 : b ≤ 255) (h : Box w g c) :
    Calls Try.prog 48 #[.int .u8 a, .int .u8 b, .int .u8 p, .func (.func 70) #[] #[.pointer (some ⟨g, 0, none⟩)]] w (DecR g (sbVal a b c) (flR (flS p 1 (sbCar a b c)) (sbVal a b c)) w) := by
  obtain ⟨c1, h1⟩ : ∃ c1, sbC (a % 16) (b % 16) c = c1 := ⟨_, rfl⟩
  obtain ⟨l, hl⟩ : ∃ l, sbL (a % 16) (b % 16) c % 16 = l := ⟨_, rfl⟩
  obtain ⟨u, hu⟩ : ∃ u, sbL (a / 16) (b / 16) c1 % 16 = u := ⟨_, rfl⟩
  obtain ⟨c2, h2⟩ : ∃ c2, sbC (a / 16) (b / 16) c1 = c2 := ⟨_, rfl⟩
  have e1 : sbVal a b c = 16 * u + l := by unfold sbVal; rw [h1, hl, hu]
  have e2 : sbCar a b c = c2 := by unfold sbCar; rw [h1, h2]
  have l0 : 0 ≤ l := by omega
  have l1 : l ≤ 15 := by omega
  have u0 : 0 ≤ u := by omega
  have u1 : u ≤ 15 := by omega
  rw [e1, e2]
  have C1 := asub_any (a % 16) (b % 16) c w g (by omega) (by omega) (by omega) (by omega) h
  rw [hl, h1] at C1
  have C2 : ∀ W : World, Box W g c1 → Calls Try.prog 70 #[.int .u8 (a / 16), .int .u8 (b / 16), .pointer (some ⟨g, 0, none⟩)] W (AddR g u c2 W) := fun W hW => by
    have := asub_any (a / 16) (b / 16) c1 W g (by omega) (by omega) (by omega) (by omega) hW
    rwa [hu, h2] at this
  have HC1 := Lib.hid C1
  have HC2 := Lib.hid C2
  clear C1 C2 h1 hl hu h2 e1 e2 h
  go_enter Try.func48, Try.ntmps48
  go_wp2_with fail
  refine HC1.out.mono ?_
  rintro e w1 ⟨rfl, b1, k1⟩
  have HB1 := Lib.hid b1
  have HK1 := Lib.hid k1
  clear b1 k1
  go_wp2_with fail
  refine (HC2.out _ HB1.out).mono ?_
  rintro e w2 ⟨rfl, b2, k2⟩
  have HK2 := Lib.hid (HK1.out.trans k2 (fun x hx => .inl hx))
  clear b2 k2
  go_wp2_with (first | (go_at_call 56; refine (fset_any _ _ _ _).mono ?_; rintro e w' ⟨rfl, rfl⟩) | (go_at_call 55; refine (fresult_any _ _ _).mono ?_; rintro e w' ⟨rfl, rfl⟩))
  go_ret3
  exact ⟨rfl, HK2.out⟩
theorem adding_any (p : Int) (w : World) : Calls Try.prog 49 #[.int .u8 p] w fun e w' => ∃ g, e = .returned (.func (.func 67) #[] #[.pointer (some ⟨g, 0, none⟩)]) ∧ Box w' g (flI p 1) ∧ w.heap.size ≤ g ∧ Below w.heap.size w w' := by
  have hmf : ∀ (fn : Fn) (first cap : Array Value) (w : World), (Instr.makeFunc fn first cap).run Try.prog w = .ok (.func fn first cap) w := fun _ _ _ _ => rfl
  go_enter Try.func49, Try.ntmps49
  go_wp2_with fail
  refine (fis_any _ _ _).mono ?_
  rintro e w1 ⟨rfl, b1⟩
  have sz := b1.size
  go_wp2
  go_ret
  exact ⟨w1.heap.size, rfl, Blk.new w1 _ _, sz, b1.alloc sz _⟩
theorem taking_any (p : Int) (w : World) : Calls Try.prog 51 #[.int .u8 p] w fun e w' => ∃ g, e = .returned (.func (.func 70) #[] #[.pointer (some ⟨g, 0, none⟩)]) ∧ Box w' g (flI p 1) ∧ w.heap.size ≤ g ∧ Below w.heap.size w w' := by
  have hmf : ∀ (fn : Fn) (first cap : Array Value) (w : World), (Instr.makeFunc fn first cap).run Try.prog w = .ok (.func fn first cap) w := fun _ _ _ _ => rfl
  go_enter Try.func51, Try.ntmps51
  go_wp2_with fail
  refine (fis_any _ _ _).mono ?_
  rintro e w1 ⟨rfl, b1⟩
  have sz := b1.size
  go_wp2
  go_ret
  exact ⟨w1.heap.size, rfl, Blk.new w1 _ _, sz, b1.alloc sz _⟩
theorem abinary_any (a b p : Int) (w : World) (a0 : 0 ≤ a) (a1 : a ≤ 255) (b0 : 0 ≤ b) (b1 : b ≤ 255) :
    Calls Try.prog 50 #[.int .u8 a, .int .u8 b, .int .u8 p] w fun e w' => e = .returned (.tuple #[.int .u8 (bnV a b (flI p 1)), .int .u8 (bnP a b p)]) ∧ Below w.heap.size w w' := by
  obtain ⟨s0, s1⟩ := sg_bd a a0 a1
  obtain ⟨t0, t1⟩ := sg_bd b b0 b1
  have C1 := fun W => asigned_any a W a0 a1
  have C2 := fun W => asigned_any b W b0 b1
  have hv : bnV a b (flI p 1) = (a + b + oI (flI p 1)) % 256 := rfl
  have hp : bnP a b p = flR (flS (flS p 1 (decide (255 < a + b + oI (flI p 1)))) 64 (decide (sg a + sg b + oI (flI p 1) < -128) || decide (127 < sg a + sg b + oI (flI p 1)))) (bnV a b (flI p 1)) := rfl
  obtain ⟨o0, o1⟩ := oI_bd (flI p 1)
  obtain ⟨o, ho⟩ : ∃ o, oI (flI p 1) = o := ⟨_, rfl⟩
  obtain ⟨s, hs⟩ : ∃ s, sg a = s := ⟨_, rfl⟩
  obtain ⟨t, ht⟩ : ∃ t, sg b = t := ⟨_, rfl⟩
  rw [hv, hp, hv]
  rw [ho] at o0 o1 ⊢
  rw [hs] at s0 s1 C1 ⊢
  rw [ht] at t0 t1 C2 ⊢
  have HO := Lib.hid ho
  have HC1 := Lib.hid C1
  have HC2 := Lib.hid C2
  clear hv hp ho hs ht C1 C2
  go_enter Try.func50, Try.ntmps50
  go_wp2_with fail
  refine (fis_any _ _ _).mono ?_
  rintro e w1 ⟨rfl, b1⟩
  go_wp2_with fail
  refine (aone_any _ _).mono ?_
  rw [HO.out]
  rintro e w' ⟨rfl, rfl⟩
  go_wp2_with fail
  refine (HC1.out _).mono ?_
  rintro e w' ⟨rfl, rfl⟩
  go_wp2_with fail
  refine (HC2.out _).mono ?_
  rintro e w' ⟨rfl, rfl⟩
  go_wp2_with fail
  refine (fset_any _ _ _ _).mono ?_
  rintro e w' ⟨rfl, rfl⟩
  go_wp2_with fail
  all_goals
    refine (fset_any _ _ _ _).mono ?_
    rintro e w' ⟨rfl, rfl⟩
    go_wp2_with fail
    refine (fresult_any _ _ _).mono ?_
    rintro e w' ⟨rfl, rfl⟩
    go_wp2_with fail
    go_ret2
    refine ⟨?_, b1⟩
    first | rfl | (rw [show decide (s + t + o < -128) = true by simpa using ‹s + t + o < -128›]; rfl)
theorem asel (f : Bool) (x y : Int) : (if f then x else y) = if f = true then x else y := rfl
def adV (a b p : Int) : Int := if flI p 8 then adVal a b (flI p 1) else bnV a b (flI p 1)
def adP (a b p : Int) : Int := if flI p 8 then flR (flS p 1 (adCar a b (flI p 1))) (adVal a b (flI p 1)) else bnP a b p
def sbV (a b p : Int) : Int := if flI p 8 then sbVal a b (flI p 1) else bnV a (255 - b) (flI p 1)
def sbP (a b p : Int) : Int := if flI p 8 then flR (flS p 1 (sbCar a b (flI p 1))) (sbVal a b (flI p 1)) else bnP a (255 - b) p
theorem adV_bd (a b p : Int) : 0 ≤ adV a b p ∧ adV a b p ≤ 255 := by unfold adV; split; exact adVal_bd _ _ _; unfold bnV; omega
theorem sbV_bd (a b p : Int) : 0 ≤ sbV a b p ∧ sbV a b p ≤ 255 := by unfold sbV; split; exact sbVal_bd _ _ _; unfold bnV; omega
set_option maxHeartbeats 4000000 in
theorem aAdd_any (a b p : Int) (w : World) (a0 : 0 ≤ a) (a1 : a ≤ 255) (b0 : 0 ≤ b) (b1 : b ≤ 255) :
    Calls Try.prog 13 #[.int .u8 a, .int .u8 b, .int .u8 p] w fun e w' => e = .returned (.tuple #[.int .u8 (adV a b p), .int .u8 (adP a b p), .bool (flI p 8)]) ∧ Below w.heap.size w w' := by
  obtain ⟨d, hd⟩ : ∃ d, flI p 8 = d := ⟨_, rfl⟩
  obtain ⟨x, hx⟩ : ∃ x, adV a b p = x := ⟨_, rfl⟩
  obtain ⟨y, hy⟩ : ∃ y, adP a b p = y := ⟨_, rfl⟩
  rw [hx, hy, hd]
  unfold adV at hx
  unfold adP at hy
  rw [hd] at hx hy
  have HD := Lib.hid hd
  have B0 := Lib.hid b0
  have B1 := Lib.hid b1
  cases d with
  | true =>
    rw [if_pos rfl] at hx hy
    have HX := Lib.hid hx
    have HY := Lib.hid hy
    clear hd hx hy
    go_enter Try.func13, Try.ntmps13
    go_wp2_with fail
    refine (fis_any _ _ _).mono ?_
    rw [HD.out]
    rintro e w1 ⟨rfl, b1⟩
    have HB1 := Lib.hid b1
    clear b1
    go_wp2_with fail
    refine (adding_any _ _).mono ?_
    rintro e w2 ⟨g, rfl, hb, hg, b2⟩
    have HB2 := Lib.hid (HB1.out.trans (b2.mono HB1.out.size))
    have HG := Lib.hid hg
    have HB := Lib.hid hb
    clear b2 hg hb
    go_wp2_with fail
    refine (adec_any a b p _ _ g a0 a1 B0.out B1.out HB.out).mono ?_
    rw [HY.out, HX.out]
    rintro e w3 ⟨rfl, k3⟩
    have HK := Lib.hid k3
    clear k3
    go_wp2_with fail
    go_ret3
    have z1 := HB1.out.size
    have z2 := HB2.out.size
    exact ⟨rfl, HK.out.onto HB2.out z2 (fun q hq => by rw [List.mem_singleton.1 hq]; exact Nat.le_trans z1 HG.out)⟩
  | false =>
    rw [if_neg (by decide)] at hx hy
    have HX := Lib.hid hx
    have HY := Lib.hid hy
    clear hd hx hy
    go_enter Try.func13, Try.ntmps13
    go_wp2_with fail
    refine (fis_any _ _ _).mono ?_
    rw [HD.out]
    rintro e w1 ⟨rfl, b1⟩
    have HB1 := Lib.hid b1
    clear b1
    go_wp2_with fail
    refine (abinary_any a b p _ a0 a1 B0.out B1.out).mono ?_
    rw [HX.out, HY.out]
    rintro e w2 ⟨rfl, b2⟩
    have HB2 := Lib.hid (HB1.out.trans (b2.mono HB1.out.size))
    clear b2
    go_wp2_with fail
    go_ret3
    exact ⟨rfl, HB2.out⟩
set_option maxHeartbeats 4000000 in
theorem aSub_any (a b p : Int) (w : World) (a0 : 0 ≤ a) (a1 : a ≤ 255) (b0 : 0 ≤ b) (b1 : b ≤ 255) :
    Calls Try.prog 14 #[.int .u8 a, .int .u8 b, .int .u8 p] w fun e w' => e = .returned (.tuple #[.int .u8 (sbV a b p), .int .u8 (sbP a b p), .bool (flI p 8)]) ∧ Below w.heap.size w w' := by
  obtain ⟨d, hd⟩ : ∃ d, flI p 8 = d := ⟨_, rfl⟩
  obtain ⟨x, hx⟩ : ∃ x, sbV a b p = x := ⟨_, rfl⟩
  obtain ⟨y, hy⟩ : ∃ y, sbP a b p = y := ⟨_, rfl⟩
  rw [hx, hy, hd]
  unfold sbV at hx
  unfold sbP at hy
  rw [hd] at hx hy
  have HD := Lib.hid hd
  have B0 := Lib.hid b0
  have B1 := Lib.hid b1
  cases d with
  | true =>
    rw [if_pos rfl] at hx hy
    have HX := Lib.hid hx
    have HY := Lib.hid hy
    clear hd hx hy
    go_enter Try.func14, Try.ntmps14
    go_wp2_with fail
    refine (fis_any _ _ _).mono ?_
    rw [HD.out]
    rintro e w1 ⟨rfl, b1⟩
    have HB1 := Lib.hid b1
    clear b1
    go_wp2_with fail
    refine (taking_any _ _).mono ?_
    rintro e w2 ⟨g, rfl, hb, hg, b2⟩
    have HB2 := Lib.hid (HB1.out.trans (b2.mono HB1.out.size))
    have HG := Lib.hid hg
    have HB := Lib.hid hb
    clear b2 hg hb
    go_wp2_with fail
    refine (sdec_any a b p _ _ g a0 a1 B0.out B1.out HB.out).mono ?_
    rw [HY.out, HX.out]
    rintro e w3 ⟨rfl, k3⟩
    have HK := Lib.hid k3
    clear k3
    go_wp2_with fail
    go_ret3
    have z1 := HB1.out.size
    have z2 := HB2.out.size
    exact ⟨rfl, HK.out.onto HB2.out z2 (fun q hq => by rw [List.mem_singleton.1 hq]; exact Nat.le_trans z1 HG.out)⟩
  | false =>
    rw [if_neg (by decide)] at hx hy
    have HX := Lib.hid hx
    have HY := Lib.hid hy
    clear hd hx hy
    go_enter Try.func14, Try.ntmps14
    go_wp2_with fail
    refine (fis_any _ _ _).mono ?_
    rw [HD.out]
    rintro e w1 ⟨rfl, b1⟩
    have HB1 := Lib.hid b1
    clear b1
    go_wp2_with fail
    refine (abinary_any a (255 - b) p _ a0 a1 (by omega) (by omega)).mono ?_
    rw [HX.out, HY.out]
    rintro e w2 ⟨rfl, b2⟩
    have HB2 := Lib.hid (HB1.out.trans (b2.mono HB1.out.size))
    clear b2
    go_wp2_with fail
    go_ret3
    exact ⟨rfl, HB2.out⟩

theorem acompare_any (r b p : Int) (w : World) (r0 : 0 ≤ r) (r1 : r ≤ 255) (b0 : 0 ≤ b) (b1 : b ≤ 255) :
    Calls Try.prog 17 #[.int .u8 r, .int .u8 b, .int .u8 p] w fun e w' => e = .returned (.int .u8 (flR (flS p 1 (decide (b ≤ r))) ((r - b) % 256))) ∧ w = w' := by
  go_enter Try.func17, Try.ntmps17
  go_wp2_with (first | (go_at_call 56; refine (fset_any _ _ _ _).mono ?_; rintro e w' ⟨rfl, rfl⟩) | (go_at_call 55; refine (fresult_any _ _ _).mono ?_; rintro e w' ⟨rfl, rfl⟩))
  go_ret
  exact ⟨rfl, rfl⟩
end Go.Proofs.Ytkmcfmflihkdjaa
