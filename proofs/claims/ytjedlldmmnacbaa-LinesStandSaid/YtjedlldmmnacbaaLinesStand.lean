/-
  For every input LinesStand returns true, and each argument reads behind the call as it read before. No conditions.
-/
import Derived.Test.YtjedlldmmnacbaaRows
import Derived.Test.YtjedlldmmnacbaaG3
import Derived.Test.YtjedlldmmnacbaaLin9
import Derived.Deep.Cut
import Derived.Deep.CutRange
import Derived.Deep.RegionHeld3
import Derived.Deep.RegionWith
import Derived.RegionTactic
import Derived.BigRegion
import Derived.LoopTactic
namespace Go.Proofs.Ytjedlldmmnacbaa.linesStand
open Go.ChangeShapes Go.WideShapes Go.ChangeAt Go.RowKit
open Go.ChangeMaps (open_string)

set_option linter.unusedVariables false
set_option linter.unusedSimpArgs false
theorem good_of {n : Nat} {es : Nat → Iib} (h : (chk es n).1 = 0) (F : ∀ i, i < n → (Lit.int .i64 (es i).a).wf = true ∧ (Lit.int .u8 (es i).b).wf = true) : Good n es :=
  ⟨(chk_zero h).1, (chk_zero h).2.1, fun j hj => (bounds_u8 (F j hj).2).1⟩
theorem pass_first {n : Nat} {es : Nat → Iib} (h : Good n es) : pass es n (-1) 0 = 0 := by
  by_cases h0 : n = 0
  · exact pass_stop (.inl (by omega))
  · have := (bad_zero (h.2.1 0 (by omega))).2.1
    exact pass_stop (.inr (by omega))
set_option maxRecDepth 100000 in
set_option maxHeartbeats 8000000 in
theorem walk {W : World} (A : Option Addr) (n c : Nat) (es : Nat → Iib) (hnc : n ≤ c) (hm : c ≤ maxLen) (R : FRow W 3 A n (fun i => iibV .i64 .u8 (es i))) (F : ∀ i, i < n → (Lit.int .i64 (es i).a).wf = true ∧ (Lit.int .u8 (es i).b).wf = true) (N : A = none → n = 0 ∧ c = 0) (A1 : Option Addr) (n1 c1 : Nat) (z1 : Nat → Int) (hnc1 : n1 ≤ c1) (hm1 : c1 ≤ maxLen) (R1 : IRow W .i64 A1 n1 z1) (l : Int) (wl : (Lit.int .u8 l).wf = true) :
    Calls Try.prog 6 #[.slice A n c, .slice A1 n1 c1, .int .u8 l] W fun e w' => e = .returned (.bool true) ∧ Below W.heap.size W w' := by
  unfold maxLen at hm hm1
  have HR : Hid (ERow W A n es) := Lib.hid R
  have HR1 := Lib.hid R1
  have HN := Lib.hid N
  have HF := Lib.hid F
  have hn : n ≤ 9223372036854775807 := by omega
  obtain ⟨l0, l1⟩ := bounds_u8 wl
  obtain ⟨j, rfl⟩ := Int.eq_ofNat_of_zero_le l0
  have hj : j ≤ 255 := by omega
  clear R F N R1 wl l0 l1
  by_cases g1 : 60 < n1
  · have i1 : (60 : Int) < n1 := by omega
    go_enter Try.func6, Try.ntmps6
    go_wp2_with (go_at_call 11; refine (liveN_any _).mono ?_; rintro e w1 ⟨rfl, hB⟩)
    go_ret
    exact ⟨rfl, hB⟩
  have i1 : ¬ (60 : Int) < n1 := by omega
  obtain ⟨⟨a, b⟩, hr⟩ : ∃ r, chk es n = r := ⟨_, rfl⟩
  have HC := Lib.hid hr
  have hz : a = 0 → b = 0 := fun h => by
    have := (chk_zero (es := es) (n := n) (by rw [hr]; exact h)).2.2
    rw [hr] at this
    exact (Prod.mk.inj this).2
  have HZ := Lib.hid hz
  clear hr hz
  go_enter Try.func6, Try.ntmps6
  go_wp2_with fail
  refine (liveN_any _).mono ?_
  rintro e w1 ⟨rfl, hB1⟩
  have HB1 := Lib.hid hB1
  clear hB1
  go_wp2_with fail
  by_cases h0 : a = 0
  · obtain rfl := h0
    obtain rfl := HZ.out rfl
    have hgood : Good n es := good_of (by rw [HC.out]) HF.out
    have HGo := Lib.hid hgood
    refine (lnew_yes HN.out (FRow.keep HR.out HB1.out) hn (by rw [HC.out])).mono ?_
    rintro e w4 ⟨g, rfl, hg, h4, b4⟩
    have HB4 := Lib.hid (HB1.out.trans (b4.mono HB1.out.size))
    have H4 := Lib.hid h4
    have hWg : W.heap.size ≤ g := by have := HB1.out.size; omega
    clear h4 b4 HB1 hgood hg
    go_wp2_with fail
    have hB5 : Below w4.heap.size w4 (w4.alloc (.cells #[.int .i64 0, .int .i64 0] 26)) := (Below.refl _ _).alloc (Nat.le_refl _) _
    have HB5 := Lib.hid (HB4.out.trans (hB5.mono HB4.out.size))
    have H5 := Lib.hid (H4.out.keep hB5)
    clear HB4 H4 hB5 i1
    generalize w4.alloc _ = w5 at *
    have hp0 := pass_first HGo.out
    have HP0 := Lib.hid hp0
    clear hp0
    go_loopw [9, 10] (fun q i wr => ∃ (k : Nat) (L : Int) (ro : Bool), k ≤ n1 ∧ i = .int .i64 k ∧ q = .int .i64 L ∧ LN wr g n es (pass es n L 0) ro ∧ Below W.heap.size W wr) (fun _ i _ => n1 - (intOf i).toNat)
    case atStart => exact ⟨0, -1, false, by omega, rfl, rfl, by rw [HP0.out]; exact H5.out, HB5.out⟩
    case round =>
      obtain ⟨k, L, ro, hk, rfl, rfl, hL, hB⟩ := hrel
      have HL := Lib.hid hL
      have HB := Lib.hid hB
      by_cases hlt : k < n1
      · obtain ⟨ad, rfl, hl, q0, _⟩ := (HR1.out.keep hB) k hlt
        obtain ⟨ad', e', hl0, _, _⟩ := HR1.out k hlt
        cases e'
        obtain ⟨x, hx⟩ : ∃ x, z1 k = x := ⟨_, rfl⟩
        rw [hx] at q0
        have i0 : (0 : Int) ≤ (k : Int) := by omega
        have i2 : (k : Int) < n1 := by omega
        have hag : ad.block ≠ g := by omega
        obtain ⟨L2, hL2⟩ : ∃ q : Int, (if L < x then x else L) = q := ⟨_, rfl⟩
        have HP : Hid (pass es n x (pass es n L 0) = pass es n L2 0) := Lib.hid (by rw [pass_two, hL2])
        have HL2 := Lib.hid hL2
        clear hx hL hB hL2 H5 HB5
        obtain ⟨s, hs⟩ : ∃ s, pass es n L 0 = s := ⟨_, rfl⟩
        rw [hs] at HL HP
        clear hs
        obtain ⟨s2, hs2⟩ : ∃ s, pass es n L2 0 = s := ⟨_, rfl⟩
        have HS2 := Lib.hid hs2
        clear hs2
        go_wp2_with fail
        refine (to_v (s' := s2) HL.out HGo.out (HP.out.trans HS2.out) rfl).mono ?_
        rintro e w6 ⟨rfl, h6, k6⟩
        have H6 := Lib.hid h6
        have HB6 := Lib.hid (k6.onto HB.out HB.out.size (by simpa using hWg))
        have q6 : w6.cell? (ad.add k) = some (.int .i64 x) := (k6.cell (p := ad.add k) (by rw [block_of_add]; exact hl) (by rw [block_of_add]; simpa using hag)).trans q0
        have HR6 := Lib.hid (FRow.keep HR.out HB6.out)
        have HV : Hid (upV es s2 j = upTo es s2 j) := Lib.hid (upTo_upV HGo.out.2.1 h6.1 j).symm
        obtain ⟨u, hu⟩ : ∃ u, upTo es s2 j = u := ⟨_, rfl⟩
        have HU := Lib.hid hu
        have hne : (u != u) = false := by simp
        clear h6 k6 hu q0
        by_cases hLx : L < x
        all_goals
          have e2 : L2 = (if L < x then x else L) := HL2.out.symm
          first | rw [if_pos hLx] at e2 | rw [if_neg hLx] at e2
          subst e2
          go_wp2_with fail
          refine (up_v H6.out j hj rfl (HV.out.trans HU.out)).mono ?_
          rintro e w' ⟨rfl, rfl⟩
          go_wp2_with fail
          refine (at_v (b := u) HR6.out hn (by rw [HS2.out]; exact HU.out)).mono ?_
          rintro e w7 ⟨rfl, h7⟩
          have HB7 := Lib.hid (HB6.out.trans (h7.mono HB6.out.size))
          have H7 := Lib.hid (H6.out.keep h7)
          clear h7
          go_wp2_with fail
          go_roundw
          case rel => exact ⟨k + 1, _, _, by omega, by go_num, rfl, by rw [HS2.out]; exact H7.out, HB7.out⟩
          case measure => simp [intOf]; omega
      · obtain rfl : k = n1 := by omega
        clear hL hB H5 HB5
        go_wp2_with fail
        go_ret
        exact ⟨rfl, HB.out⟩
  · have hne : (a != 0) = true := by simpa using h0
    refine (lnew_no (FRow.keep HR.out HB1.out) hn (by rw [HC.out]; exact h0)).mono ?_
    rw [HC.out]
    rintro e w4 ⟨rfl, b4⟩
    have HB4 := Lib.hid (HB1.out.trans (b4.mono HB1.out.size))
    clear b4 HB1
    go_wp2_with fail
    go_ret
    exact ⟨by simp, HB4.out.alloc HB4.out.size _⟩

theorem own : ownKnob Try.prog.godebug = none := by kernel_rfl
theorem laidOut : laidOutB Try.prog = true := by kernel_rfl
set_option maxRecDepth 100000 in
theorem lifted (os : Os) (started : os.Started) (H : Type) (enc : TypeId × Value → H) :
    ReturnsInHanded {} Try.checked os 6 .any (Rows.linesStandSpec.pre6 enc Try.prog Try.f6 Rows.linesStandRow.domain false) (Rows.linesStandSpec.post enc Try.prog Try.f6 false true false false) := by
  refine returnsInHanded_of_change (C := Try.checked) own started (by kernel_rfl) Try.func6
    (ChangeSpec.witness6 (enc := enc) (C := Try.checked) false ⟨#[], #[.slice none 0 0, .slice none 0 0, .int .u8 0], []⟩ 8 (by kernel_rfl) (by kernel_rfl) (by kernel_rfl) (by kernel_rfl)) ?_
  intro W base args ds gs before hval0 hW _ _
  have hval : ∀ (j : Nat) t v, Try.f6.params[j]? = some t → args[j]? = some v → Value.okWide Try.prog W .any base t v := hval0
  have hW' := hW
  obtain ⟨p, q, hA0, hV, rfl, _, _⟩ := hW
  have hA : DataW.TrodAll enc Try.prog W 0 (fun _ => true) true Try.f6.params.toList args.toList ds p := hA0
  rw [Try.params6] at hA hval
  obtain ⟨v0, vs0, d0, ds0, p0, q0, hargs, rfl, rfl, h0, r0⟩ := trodAll_cons hA
  obtain ⟨v1, vs1, d1, ds1, p1, q1, rfl, rfl, rfl, h1, r1⟩ := trodAll_cons r0
  obtain ⟨v2, vs2, d2, ds2, p2, q2, rfl, rfl, rfl, h2, r2⟩ := trodAll_cons r1
  obtain ⟨rfl, rfl, rfl⟩ := trodAll_nil r2
  obtain rfl : args = #[v0, v1, v2] := by cases args; simp_all
  obtain ⟨rfl, rfl⟩ := trodVars_none hV
  obtain ⟨A0, n0, c0, z0, rfl, g0, m0, R0, F0, N0⟩ := slice_iib Try.underlying22 Try.underlying65 (by kernel_rfl) (by kernel_rfl) Try.underlying2 Try.underlying5 Try.underlying4 (hval 0 22 v0 rfl rfl) h0
  obtain ⟨A1, n1, c1, z1, rfl, g1, m1, R1⟩ := slice_ints Try.underlying42 Try.underlying2 (by kernel_rfl) (hval 1 42 v1 rfl rfl) h1
  obtain ⟨a2, rfl, rfl, rfl, w2⟩ := open_int Try.underlying5 (hval 2 5 v2 rfl rfl) h2
  clear hA0 hval0
  refine (walk A0 n0 c0 z0 g0 m0 R0 F0 N0 A1 n1 c1 z1 g1 m1 R1 a2 w2).mono fun e W' ⟨he, hg⟩ => ?_
  subst he
  exact ⟨_, rfl, law_post rfl Try.underlying4 laidOut (by kernel_rfl) rfl hW' rfl hg⟩

theorem over : Rows.linesStandRow.holds Try.pinned (OpenSpec.ofChange Rows.linesStandSpec) :=
  OpenClaim.holds_of_wide 6 Try.f6 rfl rfl rfl rfl rfl rfl rfl ⟨rfl, rfl, rfl, rfl, rfl⟩ rfl rfl rfl rfl rfl (by kernel_rfl) Try.func6 (by kernel_rfl)
    (of_decide_eq_true (by kernel_rfl)) (by unfold Func.isWrapper; first | (rw [if_pos (by decide +kernel)]; kernel_rfl) | (rw [if_neg (by decide +kernel)]; exact ⟨rfl, rfl⟩))
    (fun os started H enc _ => lifted os started H enc)

theorem proved : Rows.LinesStandSaid := over
#print axioms proved
end Go.Proofs.Ytjedlldmmnacbaa.linesStand
