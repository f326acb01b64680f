/-
  For every input TopPlaces returns true, and each argument reads behind the call as it read before. No conditions.
-/
import Derived.Test.YtcckojleeojpiaaRows
import Derived.Test.YtcckojleeojpiaaG3
import Derived.Test.YtcckojleeojpiaaPhys5
import Derived.Test.YtcckojleeojpiaaCart5
namespace Go.Proofs.Ytcckojleeojpiaa.topPlaces
open Go.ChangeShapes Go.WideShapes Go.ChangeAt Go.RowKit
open Go.ChangeMaps (open_string)

set_option linter.unusedVariables false
theorem text_mod (a : Int) (a0 : 0 ≤ a) : textL a = textL (a % 2097152) := by
  unfold textL bankI offI
  rw [show a % 2097152 % 2097152 = a % 2097152 by omega, show a % 2097152 % 8192 = a % 8192 by omega]
theorem of_text (a : Int) (a0 : 0 ≤ a) (a1 : a < 2097152) : ofL (strOfNums (textL a)).data.toList = (a, 0) := by
  rw [text_of, of_ref]
  exact ref_text _ (by omega) (by omega)
set_option maxRecDepth 100000 in
set_option maxHeartbeats 4000000 in
theorem walk {W : World} (A : Option Addr) (m c : Nat) (ps : Nat → Pc) (hmc : m ≤ c) (hc : c ≤ maxLen) (R : PRow W A m ps) (b : Int) (wb : (Lit.int .u8 b).wf = true) (o : Int) (wo : (Lit.int .u16 o).wf = true) :
    Calls Try.prog 11 #[.slice A m c, .int .u8 b, .int .u16 o] W fun e w' => e = .returned (.bool true) ∧ Below W.heap.size W w' := by
  obtain ⟨b0, b1⟩ := bounds_u8 wb
  obtain ⟨o0, o1⟩ := bounds_u16 wo
  clear wb wo
  have hB1 : bitB 1 0 = true := by kernel_rfl
  have hI0 : imgE 0 = 6 := by kernel_rfl
  have HB1 := Lib.hid hB1
  have HI0 := Lib.hid hI0
  have hm : m ≤ maxLen := by omega
  have HM := Lib.hid hm
  unfold maxLen at hc hm
  clear hB1 hI0
  by_cases h20 : 20 < m
  · have d1 : decide ((20 : Int) < m) = true := decide_eq_true (by omega)
    have d2 : (20 : Int) < m := by omega
    go_enter Try.func11, Try.ntmps11
    go_wp2_with fail
    refine (asV (bit_any 1 0 _) (by rw [HB1.out])).mono ?_; rintro e w' ⟨rfl, rfl⟩
    go_wp2_with fail
    refine (asV (check_any none 0 0 _ (by unfold maxLen; omega)) (by rw [HI0.out])).mono ?_; rintro e w' ⟨rfl, rfl⟩
    go_wp2_with fail
    go_ret
    exact ⟨by simp, Below.refl _ _⟩
  have d1 : decide ((20 : Int) < m) = false := decide_eq_false (by omega)
  have d2 : ¬ (20 : Int) < m := by omega
  clear h20
  have x0 : 0 ≤ b * 8192 + o % 8192 := by omega
  have x1 : b * 8192 + o % 8192 < 2097152 := by omega
  have e1 := Lib.hid (show bankI (b * 8192 + o % 8192) = b by unfold bankI; omega)
  have T1 := Lib.hid (of_text _ x0 x1)
  have SZ : Hid ((strOfNums (textL (b * 8192 + o % 8192))).size ≤ maxLen) := Lib.hid (by rw [strOf_size, textL_len]; decide)
  have RD : readI 16384 (laid ps m) (b * 8192 + o % 8192) = if b < 2 then laid ps m (b * 8192 + o % 8192).toNat else 255 := by
    unfold readI
    rw [Int.emod_eq_of_lt x0 x1]
    by_cases h : b < 2
    · rw [if_pos h, if_pos ⟨where_rom _ (by rw [e1.out]; omega), by show _ < ((16384 : Nat) : Int); omega⟩]
    · rw [if_neg h, if_neg (fun h' => by have h2 : _ < ((16384 : Nat) : Int) := h'.2; omega)]
  have WFL := laid_wf (fun i hi => R.ok i hi) m (Nat.le_refl _)
  generalize hx : b * 8192 + o % 8192 = x at *
  have HX := Lib.hid hx
  have HRD := Lib.hid RD
  have HW := Lib.hid WFL
  clear hx RD WFL
  have MK := Lib.hid (@make_any 2 16384 A m c ps)
  go_enter Try.func11, Try.ntmps11
  go_wp2_with fail
  refine (asV (bit_any 1 0 _) (by rw [HB1.out])).mono ?_; rintro e w' ⟨rfl, rfl⟩
  go_wp2_with fail
  refine (asV (check_any none 0 0 _ (by unfold maxLen; omega)) (by rw [HI0.out])).mono ?_; rintro e w' ⟨rfl, rfl⟩
  go_wp2_with fail
  refine (MK.out _ rfl rfl HM.out R).mono ?_
  clear MK
  rintro e w1 ⟨hb, ⟨j, hj, _, _, rfl⟩ | ⟨_, g, C, rfl, hg, hG, hA⟩⟩
  · go_wp2_with fail
    go_ret
    exact ⟨by simp, by have := hb.size; go_grown⟩
  · have z1 := hb.size
    have hG1 := hG.alloc (.cells #[.int .i64 0, .int .i64 0] 44)
    have hB := hb.alloc hb.size (.cells #[.int .i64 0, .int .i64 0] 44)
    go_wp2_with fail
    refine (addr_any _ _ _ b0 b1 o0 o1).mono ?_; rw [HX.out]; rintro e w' ⟨rfl, rfl⟩
    go_wp2_with fail
    refine (text_any x _ (by omega) (by omega)).mono ?_; rintro e w2 ⟨rfl, hb2⟩
    go_wp2_with fail
    refine (asV (of_any _ _ SZ.out) (by rw [T1.out])).mono ?_; rintro e w3 ⟨rfl, hb3⟩
    have hG2 := hG1.below hb2 hG1.lt
    have hG3 := hG2.below hb3 hG2.lt
    have hB2 := hB.trans (hb2.mono hB.size)
    have hB3 := hB2.trans (hb3.mono hB2.size)
    have IR := IRow.of_blk hG3 hA HW.out
    clear hG1 hG2 hb2 hb3 hB hB2 hG hb
    by_cases hb2 : b < 2
    · have RD2 : readI 16384 (laid ps m) x = laid ps m x.toNat := by rw [HRD.out, if_pos hb2]
      have HR2 := Lib.hid RD2
      have cc : w3.cell? ⟨g, x.toNat, none⟩ = some (.int .u8 (laid ps m x.toNat)) := by
        rw [hG3.cell]; simpa using hA.2 x.toNat (by have := HX.out; omega)
      have i1 : (0 : Int) ≤ x := x0
      have i2 : x < 16384 := by have := HX.out; omega
      have hx : b * 8192 + o % 8192 = x := HX.out
      clear RD2 x0 x1
      go_wp2_with fail
      refine (asV (read_any (some ⟨g, 0, none⟩) 16384 16384 (laid ps m) x (by unfold maxLen; omega) IR (by omega) (by omega)) (by rw [HR2.out])).mono ?_; rintro e w4 ⟨rfl, hb4⟩
      go_wp2_with fail
      refine (asV (bank_any x _ (by omega) (by omega)) (by rw [e1.out])).mono ?_; rintro e w' ⟨rfl, rfl⟩
      go_wp2_with fail
      go_ret
      exact ⟨by simp, hB3.trans (hb4.mono hB3.size)⟩
    · have RD2 : readI 16384 (laid ps m) x = 255 := by rw [HRD.out, if_neg hb2]
      have HR2 := Lib.hid RD2
      have d3 : decide (b < 2) = false := decide_eq_false hb2
      have X0 := Lib.hid x0
      clear RD2 x0 hb2
      go_wp2_with fail
      refine (asV (read_any (some ⟨g, 0, none⟩) 16384 16384 (laid ps m) x (by unfold maxLen; omega) IR X0.out (by omega)) (by rw [HR2.out])).mono ?_; rintro e w4 ⟨rfl, hb4⟩
      go_wp2_with fail
      refine (asV (bank_any x _ X0.out (by omega)) (by rw [e1.out])).mono ?_; rintro e w' ⟨rfl, rfl⟩
      go_wp2_with fail
      go_ret
      exact ⟨by simp, hB3.trans (hb4.mono hB3.size)⟩

theorem own : ownKnob Try.prog.godebug = none := by kernel_rfl
theorem laidOut : laidOutB Try.prog = true := by kernel_rfl
set_option maxRecDepth 100000 in
theorem lifted (os : Os) (started : os.Started) (H : Type) (enc : TypeId × Value → H) :
    ReturnsInHanded {} Try.checked os 11 .any (Rows.topPlacesSpec.pre6 enc Try.prog Try.f11 Rows.topPlacesRow.domain false) (Rows.topPlacesSpec.post enc Try.prog Try.f11 false true false false) := by
  refine returnsInHanded_of_change (C := Try.checked) own started (by kernel_rfl) Try.func11
    (ChangeSpec.witness6 (enc := enc) (C := Try.checked) false ⟨#[], #[.slice none 0 0, .int .u8 0, .int .u16 0], []⟩ 8 (by kernel_rfl) (by kernel_rfl) (by kernel_rfl) (by kernel_rfl)) ?_
  intro W base args ds gs before hval0 hW _ _
  have hval : ∀ (j : Nat) t v, Try.f11.params[j]? = some t → args[j]? = some v → Value.okWide Try.prog W .any base t v := hval0
  have hW' := hW
  obtain ⟨p, q, hA0, hV, rfl, _, _⟩ := hW
  have hA : DataW.TrodAll enc Try.prog W 0 (fun _ => true) true Try.f11.params.toList args.toList ds p := hA0
  rw [Try.params11] at hA hval
  obtain ⟨v0, vs0, d0, ds0, p0, q0, hargs, rfl, rfl, h0, r0⟩ := trodAll_cons hA
  obtain ⟨v1, vs1, d1, ds1, p1, q1, rfl, rfl, rfl, h1, r1⟩ := trodAll_cons r0
  obtain ⟨v2, vs2, d2, ds2, p2, q2, rfl, rfl, rfl, h2, r2⟩ := trodAll_cons r1
  obtain ⟨rfl, rfl, rfl⟩ := trodAll_nil r2
  obtain rfl : args = #[v0, v1, v2] := by cases args; simp_all
  obtain ⟨rfl, rfl⟩ := trodVars_none hV
  obtain ⟨A0, n0, c0, z0, rfl, g0, m0, R0⟩ := slice_pieces Try.underlying40 Try.underlying61 (by kernel_rfl) (by kernel_rfl) Try.underlying3 Try.underlying42 Try.underlying5 (by kernel_rfl) (hval 0 40 v0 rfl rfl) h0
  obtain ⟨a1, rfl, rfl, rfl, w1⟩ := open_int Try.underlying5 (hval 1 5 v1 rfl rfl) h1
  obtain ⟨a2, rfl, rfl, rfl, w2⟩ := open_int Try.underlying23 (hval 2 23 v2 rfl rfl) h2
  clear hA0 hval0
  refine (walk A0 n0 c0 z0 g0 m0 R0 a1 w1 a2 w2).mono fun e W' ⟨he, hg⟩ => ?_
  subst he
  exact ⟨_, rfl, law_post rfl Try.underlying4 laidOut (by kernel_rfl) rfl hW' rfl hg⟩

theorem over : Rows.topPlacesRow.holds Try.pinned (OpenSpec.ofChange Rows.topPlacesSpec) :=
  OpenClaim.holds_of_wide 11 Try.f11 rfl rfl rfl rfl rfl rfl rfl ⟨rfl, rfl, rfl, rfl, rfl⟩ rfl rfl rfl rfl rfl (by kernel_rfl) Try.func11 (by kernel_rfl)
    (of_decide_eq_true (by kernel_rfl)) (by unfold Func.isWrapper; first | (rw [if_pos (by decide +kernel)]; kernel_rfl) | (rw [if_neg (by decide +kernel)]; exact ⟨rfl, rfl⟩))
    (fun os started H enc _ => lifted os started H enc)

theorem proved : Rows.TopPlacesSaid := over
#print axioms proved
end Go.Proofs.Ytcckojleeojpiaa.topPlaces
