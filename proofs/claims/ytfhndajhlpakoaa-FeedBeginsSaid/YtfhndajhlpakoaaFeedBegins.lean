/-
  For every input FeedBegins returns true, and each argument reads behind the call as it read before. No conditions.
-/
import Derived.Test.YtfhndajhlpakoaaRows
import Derived.Test.YtfhndajhlpakoaaG3
import Derived.Test.YtfhndajhlpakoaaFeed6
import Derived.Test.YtfhndajhlpakoaaG13
import Derived.Test.YtfhndajhlpakoaaCart6
import Derived.Deep.Cut
import Derived.Deep.CutRange
import Derived.Deep.RegionHeld3
import Derived.Deep.RegionWith
import Derived.RegionTactic
import Derived.BigRegion
import Derived.LoopTactic
namespace Go.Proofs.Ytfhndajhlpakoaa.feedBegins
open Go.ChangeShapes Go.WideShapes Go.ChangeAt Go.RowKit
open Go.ChangeMaps (open_string)

set_option linter.unusedVariables false
set_option maxRecDepth 100000 in
set_option maxHeartbeats 4000000 in
theorem walk {W : World} (A : Option Addr) (n c : Nat) (z : Nat → Int) (hc : n ≤ c) (hm : c ≤ maxLen) (R : IRow W .u8 A n z) (N : A = none → n = 0 ∧ c = 0)
    (A1 : Option Addr) (n1 c1 : Nat) (z1 : Nat → Int) (hc1 : n1 ≤ c1) (hm1 : c1 ≤ maxLen) (R1 : IRow W .u8 A1 n1 z1) (N1 : A1 = none → n1 = 0 ∧ c1 = 0)
    (A2 : Option Addr) (n2 c2 : Nat) (z2 : Nat → Int) (hc2 : n2 ≤ c2) (hm2 : c2 ≤ maxLen) (R2 : IRow W .u8 A2 n2 z2) (N2 : A2 = none → n2 = 0 ∧ c2 = 0) :
    Calls Try.prog 8 #[.slice A n c, .slice A1 n1 c1, .slice A2 n2 c2] W fun e w' => e = .returned (.bool true) ∧ Below W.heap.size W w' := by
  unfold maxLen at hm hm1 hm2
  clear N N1 N2
  by_cases g0 : 1000 < n
  · have i0 : (1000 : Int) < n := by omega
    clear R R1 R2
    go_enter Try.func8, Try.ntmps8
    go_wp2_with (go_at_call 28; refine (liveF_any _).mono ?_; rintro e w1 ⟨rfl, hB⟩)
    go_ret
    exact ⟨rfl, hB⟩
  by_cases g1 : 1000 < n1
  · have i0 : ¬ (1000 : Int) < n := by omega
    have i1 : (1000 : Int) < n1 := by omega
    clear R R1 R2
    go_enter Try.func8, Try.ntmps8
    go_wp2_with (go_at_call 28; refine (liveF_any _).mono ?_; rintro e w1 ⟨rfl, hB⟩)
    go_ret
    exact ⟨rfl, hB⟩
  by_cases g2 : 1000 < n2
  · have i0 : ¬ (1000 : Int) < n := by omega
    have i1 : ¬ (1000 : Int) < n1 := by omega
    have i2 : (1000 : Int) < n2 := by omega
    clear R R1 R2
    go_enter Try.func8, Try.ntmps8
    go_wp2_with (go_at_call 28; refine (liveF_any _).mono ?_; rintro e w1 ⟨rfl, hB⟩)
    go_ret
    exact ⟨rfl, hB⟩
  have i0 : ¬ (1000 : Int) < n := by omega
  have i1 : ¬ (1000 : Int) < n1 := by omega
  have i2 : ¬ (1000 : Int) < n2 := by omega
  have RH := Lib.hid R
  have RH1 := Lib.hid R1
  have RH2 := Lib.hid R2
  clear R R1 R2
  go_enter Try.func8, Try.ntmps8
  go_wp2_with fail
  refine (liveF_any _).mono ?_
  rintro e w1 ⟨rfl, hB⟩
  obtain ⟨v1, wa, A3, c3, wb, r1, r2, p1, p2, R3, p3, p4, q0⟩ := cat_ints (P := Try.prog) (t := 23) (e := 5) (ty := 23) (c := c) (c2 := c1) w1 Try.underlying23 u8_info' (by omega) (RH.out.keep hB) (RH1.out.keep hB) (by omega)
  have R3H := Lib.hid R3
  have P4 := Lib.hid p4
  clear R3 p4
  unfold maxLen at p2
  have hBb := hB.trans (q0.mono hB.size)
  go_upto_region 5 with fail
  go_wp2_with (first | (at_builtin; refine wpList_append_run rfl (.tmp 26) (.tmp 27) 23 rfl rfl rfl r1 ?_) | (at_builtin; refine wpList_append_run rfl (.tmp 28) (.tmp 29) 23 rfl rfl rfl r2 ?_))
  refine (new_any A3 (n + n1) c3 _ P4.out (by omega) R3H.out).mono ?_
  rintro e w2 ⟨gf, cf, rfl, f1, f2, f3, f4, f5, f6⟩
  have hB2 := hBb.trans (f6.mono (by have := hBb.size; omega))
  have sz1 := hB.size
  have sz2 := hBb.size
  have sz3 := q0.size
  clear r1 r2 R3H P4 hBb q0
  have F5 := Lib.hid f5
  clear f5
  obtain ⟨v2, wc, A4, c4, wd, r3, r4, q1, q2, R4, q3, q4, q5⟩ := cat_ints (P := Try.prog) (t := 23) (e := 5) (ty := 23) (c := c) (c2 := c2) w2 Try.underlying23 u8_info' (by omega) (RH.out.keep hB2) (RH2.out.keep hB2) (by omega)
  have R4H := Lib.hid R4
  have Q4 := Lib.hid q4
  have F5d := Lib.hid (F5.out.keep q5)
  clear R4 q4 F5
  unfold maxLen at q2
  have hBd := hB2.trans (q5.mono hB2.size)
  go_wp2_with (first | (at_builtin; refine wpList_append_run rfl (.tmp 32) (.tmp 33) 23 rfl rfl rfl r3 ?_) | (at_builtin; refine wpList_append_run rfl (.tmp 34) (.tmp 35) 23 rfl rfl rfl r4 ?_))
  refine (new_any A4 (n + n2) c4 _ Q4.out (by omega) R4H.out).mono ?_
  rintro e w3 ⟨gg, cg, rfl, h1, h2, h3, h4, h5, h6⟩
  have hB3 := hBd.trans (h6.mono (by have := hBd.size; omega))
  have F6 := Lib.hid (F5d.out.keep h6)
  have H5 := Lib.hid h5
  have HB3 := Lib.hid hB3
  have hlt : gf < gg ∧ gf < cg ∧ cf < gg ∧ cf < cg := by have := q5.size; omega
  have hge : W.heap.size ≤ gf ∧ W.heap.size ≤ cf ∧ W.heap.size ≤ gg ∧ W.heap.size ≤ cg := by have := q5.size; have := hB2.size; omega
  have HL := Lib.hid hlt
  have HG := Lib.hid hge
  clear r3 r4 R4H Q4 F5d hBd q5 f6 h6 h5 hB3 hB2 hlt hge f1 f2 f3 f4 h1 h2 h3 h4 q3 p3 hB sz1 sz2 sz3 q1 q2 p1 p2
  go_wp2_with fail
  go_loopw [9] (fun i wr => ∃ k : Nat, k ≤ n ∧ i = .int .i64 k ∧ FD wr gf cf (n + n1 - k) (fun j => if k + j < n then z (k + j) else z1 (k + j - n)) k ∧ FD wr gg cg (n + n2 - k) (fun j => if k + j < n then z (k + j) else z2 (k + j - n)) k ∧ Below W.heap.size W wr) (fun i _ => n - (intOf i).toNat)
  case atStart =>
    refine ⟨0, Nat.zero_le _, rfl, F6.out.congr rfl ?_ rfl, H5.out.congr rfl ?_ rfl, HB3.out⟩ <;> (intro i _; simp)
  case round =>
    obtain ⟨k, hk, rfl, Q1, Q2, Q3⟩ := hrel
    have QA := Lib.hid Q1
    have QB := Lib.hid Q2
    have QC := Lib.hid Q3
    clear Q1 Q2 Q3
    by_cases hlt : k < n
    · obtain ⟨b, hb⟩ : ∃ b, z k = b := ⟨_, rfl⟩
      have HZ := Lib.hid hb
      clear hb
      go_wp2_with fail
      refine (next_v (n' := n + n1 - (k + 1)) (z' := fun j => if k + 1 + j < n then z (k + 1 + j) else z1 (k + 1 + j - n)) (t' := k + 1) (b := b) QA.out (by omega) (by omega) ?_ (by omega) ?_ rfl).mono ?_
      · rw [show (0 : Int) = ((0 : Nat) : Int) from rfl, peekI_yes _ _ 0 (by omega)]
        rw [Nat.add_zero, if_pos hlt, HZ.out]
      · intro i _
        rw [show k + (1 + i) = k + 1 + i by omega]
      rintro e wx ⟨rfl, x1, x2⟩
      have hge := HG.out
      have hlo := HL.out
      have szr := QC.out.size
      have hBx := x2.onto QC.out szr (by simp; omega)
      obtain ⟨ad, rfl, _, hc0, _⟩ := (RH.out.keep hBx) k hlt
      rw [HZ.out] at hc0
      have QBx := QB.out.kp x2 (fun x hx => by
        have hx' : x = gf ∨ x = cf := by simpa using hx
        rcases hx' with rfl | rfl
        · exact ⟨_, _, QA.out.1, by decide⟩
        · obtain ⟨_, v, hv, _⟩ := QA.out
          exact ⟨_, _, hv, by decide⟩) (by simp; omega) (by simp; omega)
      have X1 := Lib.hid x1
      have QX := Lib.hid QBx
      have HX := Lib.hid hBx
      have hne := ne_self b
      have KX := Lib.hid x2
      clear x1 QBx hBx x2 QB QA QC F6 H5 HB3
      go_wp2_with fail
      refine (next_v (n' := n + n2 - (k + 1)) (z' := fun j => if k + 1 + j < n then z (k + 1 + j) else z2 (k + 1 + j - n)) (t' := k + 1) (b := b) QX.out (by omega) (by omega) ?_ (by omega) ?_ rfl).mono ?_
      · rw [show (0 : Int) = ((0 : Nat) : Int) from rfl, peekI_yes _ _ 0 (by omega)]
        rw [Nat.add_zero, if_pos hlt, HZ.out]
      · intro i _
        rw [show k + (1 + i) = k + 1 + i by omega]
      rintro e wy ⟨rfl, y1, y2⟩
      have szx := HX.out.size
      have hBy := y2.onto HX.out szx (by simp; omega)
      have X1y := X1.out.kp y2 (fun x hx => by
        have hx' : x = gg ∨ x = cg := by simpa using hx
        rcases hx' with rfl | rfl
        · exact ⟨_, _, QX.out.1, by decide⟩
        · obtain ⟨_, v, hv, _⟩ := QX.out
          exact ⟨_, _, hv, by decide⟩) (by simp; omega) (by simp; omega)
      have Y1 := Lib.hid y1
      have X1Y := Lib.hid X1y
      have HY := Lib.hid hBy
      clear y1 X1y hBy y2 hge hlo szr szx
      go_wp2_with fail
      go_roundw
      case rel => exact ⟨k + 1, by omega, by go_num, X1Y.out.congr rfl (fun _ _ => rfl) (by omega), Y1.out.congr rfl (fun _ _ => rfl) (by omega), HY.out⟩
      case measure => simp [intOf]; omega
    · obtain rfl : k = n := by omega
      have hge := HG.out
      have hlo := HL.out
      have szr := QC.out.size
      have QA' := Lib.hid (QA.out.congr (n' := n1) (z' := z1) (t' := k) (by omega) (fun i hi => by show z1 i = if k + i < k then _ else _; rw [if_neg (by omega)]; congr 1; omega) rfl)
      have QB' := Lib.hid (QB.out.congr (n' := n2) (z' := z2) (t' := k) (by omega) (fun i hi => by show z2 i = if k + i < k then _ else _; rw [if_neg (by omega)]; congr 1; omega) rfl)
      clear QA QB F6 H5 HB3
      go_wp2_with fail
      refine (left_any QA'.out).mono ?_
      rintro e wx ⟨rfl, x1, x2⟩
      have hBx := x2.onto QC.out szr (by simp; omega)
      have QBx := QB'.out.kp x2 (fun x hx => by
        obtain rfl : x = cf := by simpa using hx
        obtain ⟨_, v, hv, _⟩ := QA'.out
        exact ⟨_, _, hv, by decide⟩) (by simp; omega) (by simp; omega)
      have QX := Lib.hid QBx
      have HX := Lib.hid hBx
      clear QBx hBx x2 x1 QA' QB' QC szr
      go_wp2_with fail
      refine (left_any QX.out).mono ?_
      rintro e wy ⟨rfl, y1, y2⟩
      have szx := HX.out.size
      have hBy := y2.onto HX.out szx (by simp; omega)
      have HY := Lib.hid hBy
      clear y1 hBy y2 hge hlo szx
      go_wp2_with fail
      go_ret
      exact ⟨by simp, HY.out⟩

theorem own : ownKnob Try.prog.godebug = none := by kernel_rfl
theorem laidOut : laidOutB Try.prog = true := by kernel_rfl
set_option maxRecDepth 100000 in
theorem lifted (os : Os) (started : os.Started) (H : Type) (enc : TypeId × Value → H) :
    ReturnsInHanded {} Try.checked os 8 .any (Rows.feedBeginsSpec.pre6 enc Try.prog Try.f8 Rows.feedBeginsRow.domain false) (Rows.feedBeginsSpec.post enc Try.prog Try.f8 false true false false) := by
  refine returnsInHanded_of_change (C := Try.checked) own started (by kernel_rfl) Try.func8
    (ChangeSpec.witness6 (enc := enc) (C := Try.checked) false ⟨#[], #[.slice none 0 0, .slice none 0 0, .slice none 0 0], []⟩ 8 (by kernel_rfl) (by kernel_rfl) (by kernel_rfl) (by kernel_rfl)) ?_
  intro W base args ds gs before hval0 hW _ _
  have hval : ∀ (j : Nat) t v, Try.f8.params[j]? = some t → args[j]? = some v → Value.okWide Try.prog W .any base t v := hval0
  have hW' := hW
  obtain ⟨p, q, hA0, hV, rfl, _, _⟩ := hW
  have hA : DataW.TrodAll enc Try.prog W 0 (fun _ => true) true Try.f8.params.toList args.toList ds p := hA0
  rw [Try.params8] at hA hval
  obtain ⟨v0, vs0, d0, ds0, p0, q0, hargs, rfl, rfl, h0, r0⟩ := trodAll_cons hA
  obtain ⟨v1, vs1, d1, ds1, p1, q1, rfl, rfl, rfl, h1, r1⟩ := trodAll_cons r0
  obtain ⟨v2, vs2, d2, ds2, p2, q2, rfl, rfl, rfl, h2, r2⟩ := trodAll_cons r1
  obtain ⟨rfl, rfl, rfl⟩ := trodAll_nil r2
  obtain rfl : args = #[v0, v1, v2] := by cases args; simp_all
  obtain ⟨rfl, rfl⟩ := trodVars_none hV
  obtain ⟨A0, n0, c0, z0, rfl, g0, m0, R0, N0⟩ := slice_ints2 Try.underlying23 Try.underlying5 (by kernel_rfl) (hval 0 23 v0 rfl rfl) h0
  obtain ⟨A1, n1, c1, z1, rfl, g1, m1, R1, N1⟩ := slice_ints2 Try.underlying23 Try.underlying5 (by kernel_rfl) (hval 1 23 v1 rfl rfl) h1
  obtain ⟨A2, n2, c2, z2, rfl, g2, m2, R2, N2⟩ := slice_ints2 Try.underlying23 Try.underlying5 (by kernel_rfl) (hval 2 23 v2 rfl rfl) h2
  clear hA0 hval0
  refine (walk A0 n0 c0 z0 g0 m0 R0 N0 A1 n1 c1 z1 g1 m1 R1 N1 A2 n2 c2 z2 g2 m2 R2 N2).mono fun e W' ⟨he, hg⟩ => ?_
  subst he
  exact ⟨_, rfl, law_post rfl Try.underlying4 laidOut (by kernel_rfl) rfl hW' rfl hg⟩

theorem over : Rows.feedBeginsRow.holds Try.pinned (OpenSpec.ofChange Rows.feedBeginsSpec) :=
  OpenClaim.holds_of_wide 8 Try.f8 rfl rfl rfl rfl rfl rfl rfl ⟨rfl, rfl, rfl, rfl, rfl⟩ rfl rfl rfl rfl rfl (by kernel_rfl) Try.func8 (by kernel_rfl)
    (of_decide_eq_true (by kernel_rfl)) (by unfold Func.isWrapper; first | (rw [if_pos (by decide +kernel)]; kernel_rfl) | (rw [if_neg (by decide +kernel)]; exact ⟨rfl, rfl⟩))
    (fun os started H enc _ => lifted os started H enc)

theorem proved : Rows.FeedBeginsSaid := over
#print axioms proved
end Go.Proofs.Ytfhndajhlpakoaa.feedBegins
