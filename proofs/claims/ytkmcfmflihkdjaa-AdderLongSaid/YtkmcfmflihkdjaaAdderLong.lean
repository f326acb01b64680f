/-
  For every input AdderLong returns true, and each argument reads behind the call as it read before. No conditions.
-/
import Derived.Test.YtkmcfmflihkdjaaRows
import Derived.Test.YtkmcfmflihkdjaaG3
import Derived.Test.YtkmcfmflihkdjaaAdd6
namespace Go.Proofs.Ytkmcfmflihkdjaa.adderLong
open Go.ChangeShapes Go.WideShapes Go.ChangeAt Go.RowKit
open Go.ChangeMaps (open_string)

set_option linter.unusedVariables false
set_option linter.unusedSimpArgs false
theorem lgP_bd (sub : Bool) (a b : Nat → Int) (p : Int) (p0 : 0 ≤ p) (p1 : p ≤ 255) (k : Nat) : 0 ≤ lgP sub a b p k ∧ lgP sub a b p k ≤ 255 := by
  cases k with
  | zero => exact ⟨p0, p1⟩
  | succ k =>
    simp only [lgP, stP]
    split
    · unfold sbP bnP flR; split <;> exact flS_bd _ _ _
    · unfold adP bnP flR; split <;> exact flS_bd _ _ _
set_option maxRecDepth 100000 in
set_option maxHeartbeats 8000000 in
theorem walk {W : World} (A : Option Addr) (n c : Nat) (a : Nat → Int) (hnc : n ≤ c) (hcm : c ≤ maxLen) (R : IRow W .u8 A n a) (B : Option Addr) (m d : Nat) (b : Nat → Int) (hmd : m ≤ d) (hdm : d ≤ maxLen) (Q : IRow W .u8 B m b)
    (p : Int) (wp : (Lit.int .u8 p).wf = true) (sub : Bool) :
    Calls Try.prog 4 #[.slice A n c, .slice B m d, .int .u8 p, .bool sub] W fun e w' => e = .returned (.bool true) ∧ Below W.heap.size W w' := by
  obtain ⟨p0, p1⟩ := bounds_u8 wp
  unfold maxLen at hcm hdm
  have HR := Lib.hid R
  have HQ := Lib.hid Q
  have PB := Lib.hid (lgP_bd sub a b p p0 p1)
  clear R Q wp
  by_cases hn : n ≤ 300
  · by_cases hnm : n = m
    · subst hnm
      have hne : ((n : Int) != n) = false := by simp
      clear hcm hdm
      go_enter Try.func4, Try.ntmps4
      go_wp2_with fail
      refine (live21 _).mono ?_
      rintro e w0 ⟨rfl, b0⟩
      have HB := Lib.hid b0
      clear b0
      go_wp2_with fail
      refine (long_any p sub (HR.out.keep HB.out) (HQ.out.keep HB.out) (by omega)).mono ?_
      rintro e w1 ⟨g, rfl, hg, RL, b1⟩
      have HB1 := Lib.hid (HB.out.trans (b1.mono HB.out.size))
      have gl : W.heap.size ≤ g := Nat.le_trans HB.out.size hg
      have HL := Lib.hid RL
      clear b1 RL hg
      go_wp2_with fail
      go_loopw [2, 12] (fun q i wr => ∃ k : Nat, k ≤ n ∧ i = .int .i64 k ∧ q = .int .u8 (lgP sub a b p k) ∧ Below w1.heap.size w1 wr) (fun _ i _ => n - (intOf i).toNat)
      case atStart => exact ⟨0, by omega, rfl, rfl, Below.refl _ _⟩
      case round =>
        obtain ⟨k, hk, rfl, rfl, hB⟩ := hrel
        have HBr := Lib.hid hB
        have HBW := Lib.hid (HB1.out.trans (hB.mono HB1.out.size))
        clear hB
        by_cases hlt : k < n
        · obtain ⟨ad, rfl, hl, h0, w0'⟩ := HR.out.keep HBW.out k hlt
          obtain ⟨bd, rfl, hm, h1, w1'⟩ := HQ.out.keep HBW.out k hlt
          obtain ⟨gd, hgd, hgl, h2, w2'⟩ := HL.out.keep HBr.out k hlt
          cases hgd
          obtain ⟨x0, x1⟩ := bounds_u8 w0'
          obtain ⟨y0, y1⟩ := bounds_u8 w1'
          obtain ⟨q0, q1⟩ := PB.out k
          have e1 : lgP sub a b p (k + 1) = stP sub (a k) (b k) (lgP sub a b p k) := rfl
          have e2 : lgV sub a b p k = stV sub (a k) (b k) (lgP sub a b p k) := rfl
          rw [e2] at h2
          obtain ⟨x, hx⟩ : ∃ x, a k = x := ⟨_, rfl⟩
          obtain ⟨y, hy⟩ : ∃ y, b k = y := ⟨_, rfl⟩
          obtain ⟨q, hq⟩ : ∃ q, lgP sub a b p k = q := ⟨_, rfl⟩
          rw [hx, hy, hq] at e1 h2
          rw [hx] at h0 x0 x1
          rw [hy] at h1 y0 y1
          rw [hq] at q0 q1 ⊢
          have C1 := fun w => radd_any x y q w x0 x1 y0 y1 q0 q1
          have C2 := fun w => rsub_any x y q w x0 x1 y0 y1 q0 q1
          obtain ⟨v1, hv1⟩ : ∃ v, stV sub x y q = v := ⟨_, rfl⟩
          obtain ⟨v2, hv2⟩ : ∃ v, stP sub x y q = v := ⟨_, rfl⟩
          rw [hv1, add_zero_block] at h2
          rw [hv2] at e1
          have E1 := Lib.hid e1
          have h3 : ⟨g, k, none⟩ = (⟨g, k, none⟩ : Addr) := rfl
          have n1 : (v1 != v1) = false := by simp
          cases sub with
          | false =>
            have hv1' : adV x y q = v1 := hv1
            have hv2' : adP x y q = v2 := hv2
            rw [hv1', hv2'] at C1
            have H1 := Lib.hid C1
            clear C1 C2 hx hy hq hv1 hv2 hv1' hv2' e1 e2 w0' w1' w2' h3
            go_wp2_with fail
            go_region_with (go_at_call 15; refine (H1.out _).mono ?_; rintro e w3 ⟨rfl, b3⟩; have h23 := (b3.cell (p := ⟨g, k, none⟩) (by exact hgl)).trans (by exact h2); clear h0 h1 h2)
            all_goals
              have HBn := Lib.hid (HBr.out.drew.trans (b3.mono HBr.out.size))
              clear b3
              go_wp2_with fail
              go_roundw
              case rel => exact ⟨k + 1, by omega, by go_num, by rw [E1.out], HBn.out⟩
              case measure => simp [intOf]; omega
          | true =>
            have hv1' : sbV x y q = v1 := hv1
            have hv2' : sbP x y q = v2 := hv2
            rw [hv1', hv2'] at C2
            have H1 := Lib.hid C1
            have H2 := Lib.hid C2
            clear C1 C2 hx hy hq hv1 hv2 hv1' hv2' e1 e2 w0' w1' w2' h3
            go_wp2_with fail
            go_region_with (go_at_call 15; refine (H1.out _).mono ?_; rintro e w3 ⟨rfl, b3⟩; have h03 := (b3.cell (p := ad.add k) (by rw [block_of_add]; exact hl)).trans (by exact h0); have h13 := (b3.cell (p := bd.add k) (by rw [block_of_add]; exact hm)).trans (by exact h1); have h23 := (b3.cell (p := ⟨g, k, none⟩) (by exact hgl)).trans (by exact h2); have hl3 := Nat.lt_of_lt_of_le hl b3.size; have hm3 := Nat.lt_of_lt_of_le hm b3.size; have hg3 := Nat.lt_of_lt_of_le hgl b3.size; clear h0 h1 h2)
            all_goals
              have HBn := Lib.hid (HBr.out.drew.trans (b3.mono HBr.out.size))
              clear b3
              go_wp2_with fail
              go_region_with (go_at_call 16; refine (H2.out _).mono ?_; rintro e w4 ⟨rfl, b4⟩; have h24 := (b4.cell (p := ⟨g, k, none⟩) (by exact hg3)).trans (by exact h23); clear h03 h13 h23)
              all_goals
                have HBm := Lib.hid (HBn.out.drew.trans (b4.mono HBn.out.size))
                clear b4
                go_wp2_with fail
                go_roundw
                case rel => exact ⟨k + 1, by omega, by go_num, by rw [E1.out], HBm.out⟩
                case measure => simp [intOf]; omega
        · obtain rfl : k = n := by omega
          have z0 : ∀ q : Int, (q == q) = true := fun q => by simp
          go_wp2_with fail
          go_ret
          exact ⟨by simp, HBW.out⟩
    · have hnm' : ((n : Int) != m) = true := by rw [bne_iff_ne]; omega
      go_enter Try.func4, Try.ntmps4
      go_wp2_with fail
      refine (live21 _).mono ?_
      rintro e w0 ⟨rfl, b0⟩
      have HB := Lib.hid b0
      clear b0
      go_wp2_with fail
      refine (long_no A B n m c d p sub hnm).mono ?_
      rintro e w' ⟨rfl, rfl⟩
      go_wp2_with fail
      go_ret
      exact ⟨rfl, HB.out⟩
  · have h3 : ¬ (n : Int) ≤ 300 := by omega
    go_enter Try.func4, Try.ntmps4
    go_wp2_with fail
    refine (live21 _).mono ?_
    rintro e w0 ⟨rfl, b0⟩
    have HB := Lib.hid b0
    clear b0
    go_wp2_with fail
    go_ret
    exact ⟨rfl, HB.out⟩

theorem own : ownKnob Try.prog.godebug = none := by kernel_rfl
theorem laidOut : laidOutB Try.prog = true := by kernel_rfl
set_option maxRecDepth 100000 in
theorem lifted (os : Os) (started : os.Started) (H : Type) (enc : TypeId × Value → H) :
    ReturnsInHanded {} Try.checked os 4 .any (Rows.adderLongSpec.pre6 enc Try.prog Try.f4 Rows.adderLongRow.domain false) (Rows.adderLongSpec.post enc Try.prog Try.f4 false true false false) := by
  refine returnsInHanded_of_change (C := Try.checked) own started (by kernel_rfl) Try.func4
    (ChangeSpec.witness6 (enc := enc) (C := Try.checked) false ⟨#[], #[.slice none 0 0, .slice none 0 0, .int .u8 0, .bool false], []⟩ 8 (by kernel_rfl) (by kernel_rfl) (by kernel_rfl) (by kernel_rfl)) ?_
  intro W base args ds gs before hval0 hW _ _
  have hval : ∀ (j : Nat) t v, Try.f4.params[j]? = some t → args[j]? = some v → Value.okWide Try.prog W .any base t v := hval0
  have hW' := hW
  obtain ⟨p, q, hA0, hV, rfl, _, _⟩ := hW
  have hA : DataW.TrodAll enc Try.prog W 0 (fun _ => true) true Try.f4.params.toList args.toList ds p := hA0
  rw [Try.params4] at hA hval
  obtain ⟨v0, vs0, d0, ds0, p0, q0, hargs, rfl, rfl, h0, r0⟩ := trodAll_cons hA
  obtain ⟨v1, vs1, d1, ds1, p1, q1, rfl, rfl, rfl, h1, r1⟩ := trodAll_cons r0
  obtain ⟨v2, vs2, d2, ds2, p2, q2, rfl, rfl, rfl, h2, r2⟩ := trodAll_cons r1
  obtain ⟨v3, vs3, d3, ds3, p3, q3, rfl, rfl, rfl, h3, r3⟩ := trodAll_cons r2
  obtain ⟨rfl, rfl, rfl⟩ := trodAll_nil r3
  obtain rfl : args = #[v0, v1, v2, v3] := by cases args; simp_all
  obtain ⟨rfl, rfl⟩ := trodVars_none hV
  obtain ⟨A0, n0, c0, z0, rfl, g0, m0, R0⟩ := slice_ints Try.underlying27 Try.underlying5 (by kernel_rfl) (hval 0 27 v0 rfl rfl) h0
  obtain ⟨A1, n1, c1, z1, rfl, g1, m1, R1⟩ := slice_ints Try.underlying27 Try.underlying5 (by kernel_rfl) (hval 1 27 v1 rfl rfl) h1
  obtain ⟨a2, rfl, rfl, rfl, w2⟩ := open_int Try.underlying5 (hval 2 5 v2 rfl rfl) h2
  obtain ⟨a3, rfl, rfl, rfl⟩ := open_bool Try.underlying4 (hval 3 4 v3 rfl rfl) h3
  clear hA0 hval0
  refine (walk A0 n0 c0 z0 g0 m0 R0 A1 n1 c1 z1 g1 m1 R1 a2 w2 a3).mono fun e W' ⟨he, hg⟩ => ?_
  subst he
  exact ⟨_, rfl, law_post rfl Try.underlying4 laidOut (by kernel_rfl) rfl hW' rfl hg⟩

theorem over : Rows.adderLongRow.holds Try.pinned (OpenSpec.ofChange Rows.adderLongSpec) :=
  OpenClaim.holds_of_wide 4 Try.f4 rfl rfl rfl rfl rfl rfl rfl ⟨rfl, rfl, rfl, rfl, rfl⟩ rfl rfl rfl rfl rfl (by kernel_rfl) Try.func4 (by kernel_rfl)
    (of_decide_eq_true (by kernel_rfl)) (by unfold Func.isWrapper; first | (rw [if_pos (by decide +kernel)]; kernel_rfl) | (rw [if_neg (by decide +kernel)]; exact ⟨rfl, rfl⟩))
    (fun os started H enc _ => lifted os started H enc)

theorem proved : Rows.AdderLongSaid := over
#print axioms proved
end Go.Proofs.Ytkmcfmflihkdjaa.adderLong
