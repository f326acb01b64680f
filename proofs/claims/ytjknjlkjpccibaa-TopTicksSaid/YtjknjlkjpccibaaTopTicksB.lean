/-
  For every input TopTicks returns true, and each argument reads behind the call as it read before. No conditions.
-/
import Derived.Test.YtjknjlkjpccibaaRows
import Derived.Deep.Cut
import Derived.Deep.CutRange
import Derived.Deep.RegionHeld3
import Derived.Deep.RegionWith
import Derived.RegionTactic
import Derived.BigRegion
import Derived.LoopTactic
import Derived.Test.YtjknjlkjpccibaaKTopTicks3
namespace Go.Proofs.Ytjknjlkjpccibaa.topTicks
open Go.ChangeShapes Go.WideShapes Go.ChangeAt Go.RowKit
open Go.ChangeMaps (open_string)

set_option linter.unusedVariables false
set_option linter.unusedSimpArgs false
theorem and4 : ∀ e : Fin 256, (bits .and .u8 (e.val : Int) 4 != 0) = !decide ((e.val % 8) / 4 = 0) := by decide +kernel
theorem and4_v {e : Int} (h0 : 0 ≤ e) (h1 : e ≤ 255) : (bits .and .u8 e 4 != 0) = !decide ((e % 8).toNat / 4 = 0) := by
  have := and4 ⟨e.toNat, by omega⟩
  rw [show ((⟨e.toNat, by omega⟩ : Fin 256).val : Int) = e by simp; omega] at this
  rw [this]
  congr 2
  show (e.toNat % 8 / 4 = 0) = _
  rw [show e.toNat % 8 = (e % 8).toNat by omega]
set_option maxRecDepth 100000 in
set_option maxHeartbeats 16000000 in
theorem walk (a : Int) (wa : (Lit.int .u8 a).wf = true) (e : Int) (we : (Lit.int .u8 e).wf = true) (m : Bool) (W : World) :
    Calls Try.prog 6 #[.int .u8 a, .int .u8 e, .bool m] W fun e w' => e = .returned (.bool true) ∧ Below W.heap.size W w' := by
  obtain ⟨a0, a1⟩ := bounds_u8 wa
  obtain ⟨e0, e1⟩ := bounds_u8 we
  have hfd := fieldDue
  obtain ⟨R, hR⟩ : ∃ R : Nat, (a % 128).toNat = R := ⟨_, rfl⟩
  obtain ⟨E, hE⟩ : ∃ E : Nat, (e % 8).toNat = E := ⟨_, rfl⟩
  have eR : a % 128 = (R : Int) := by omega
  have hR1 : R ≤ 127 := by omega
  have hand := and4_v e0 e1
  rw [hE] at hand
  obtain ⟨N, hN⟩ : ∃ N : Nat, 3072 * (R + 1) = N := ⟨_, rfl⟩
  have hN1 : 3072 ≤ N ∧ N ≤ 393216 := by omega
  obtain ⟨B, hB⟩ : ∃ B, W.heap.size = B := ⟨_, rfl⟩
  have HBB := Lib.hid hB
  have HR := Lib.hid hR
  have HE := Lib.hid hE
  have HN := Lib.hid hN
  have ER := Lib.hid eR
  -- what the page comes to
  have s1 : (mkX Tm.new ⟨0, false⟩ 0 0).wr 8 2 e = mkX Tm.new ⟨E, false⟩ e 0 := by rw [mk_wr8]; unfold Iq.wr; rw [if_pos rfl, hE]
  have s2 : (mkX Tm.new ⟨E, false⟩ e 0).wr 6 0 a = mkX ⟨0, 0, R, false⟩ ⟨E, false⟩ a 0 := by rw [mk_wr6]; unfold Tm.wr; rw [if_pos rfl, hR]; rfl
  have s3 : (mkX ⟨0, 0, R, false⟩ ⟨E, false⟩ a 0).wr 6 1 1 = mkX ⟨0, R, R, true⟩ ⟨E, false⟩ 1 0 := by rw [mk_wr6]; rfl
  have s4 : (mkX ⟨0, R, R, true⟩ ⟨E, false⟩ 1 0).to d0 ((N : Int) - 1) = mkX ⟨3071, 0, R, true⟩ ⟨E, false⟩ 1 ((N : Int) - 1) := by
    rw [mk_to _ _ _ _ _ (by omega)]
    have k : ((N : Int) - 1 - 0).toNat = 3072 * R + 3071 := by omega
    obtain ⟨t1, t2⟩ := tk_down (r := R) (n := R) (c := R) (Nat.le_refl _)
    rw [k]
    unfold Tm.goN Tm.overN
    rw [if_pos rfl, if_pos rfl]
    dsimp only
    rw [show (0 + (3072 * R + 3071)) / 3072 = R by omega, show (0 + (3072 * R + 3071)) % 3072 = 3071 by omega, t1, t2, Nat.sub_self]
    rfl
  have s5 : (mkX ⟨3071, 0, R, true⟩ ⟨E, false⟩ 1 ((N : Int) - 1)).to d0 (N : Int) = mkX ⟨0, R, R, true⟩ ⟨E, true⟩ 1 N := by
    rw [mk_to _ _ _ _ _ (by omega)]
    have k : ((N : Int) - (N - 1)).toNat = 1 := by omega
    rw [k]
    unfold Tm.goN Tm.overN
    rw [if_pos rfl, if_pos rfl]
    dsimp only
    obtain ⟨t1, t2⟩ := tk_over R 0
    rw [show (3071 + 1) / 3072 = 0 + 1 by decide, t1, t2]
    rfl
  have s6 : (mkX ⟨0, R, R, true⟩ ⟨E, true⟩ 1 N).wr 8 3 0 = mkX ⟨0, R, R, true⟩ ⟨E, false⟩ 0 N := by rw [mk_wr8]; rfl
  have S1 := Lib.hid s1
  have S2 := Lib.hid s2
  have S3 := Lib.hid s3
  have S4 := Lib.hid s4
  have S5 := Lib.hid s5
  have S6 := Lib.hid s6
  clear s1 s2 s3 s4 s5 s6 hR hE hN eR wa we
  go_enter Try.func6, Try.ntmps6
  go_wp2_with fail
  refine (bit_v (x := true) (by kernel_rfl)).mono ?_
  rintro e w' ⟨rfl, rfl⟩
  go_wp2_with fail
  refine (hnew_none _).mono ?_
  rintro e w1 ⟨g, b, rfl, hg, h1, b1⟩
  rw [hB] at hg b1
  have T1 : Hid (HT B W g d0 b (mkX Tm.new ⟨0, false⟩ 0 0) w1) := Lib.hid ⟨h1, b1, hB ▸ b1.size, hg⟩
  clear hg h1 b1 hB
  go_wp2_with fail
  have T2 := Lib.hid (T1.out.on ((Below.refl w1.heap.size w1).alloc (Nat.le_refl _) (.cells #[.int .i64 0, .int .i64 0] 48)))
  clear T1
  generalize World.alloc _ _ = w2 at *
  refine (hwrite_v T2.out.1 (mk_lim _ _ _ _ _) (by decide) (by decide) e0 e1 (k := 8) (r := 2) (by decide) (by decide) S1.out).mono ?_
  rintro e w3 ⟨rfl, y1, y2⟩
  have T3 := Lib.hid (T2.out.go (fun _ h => h) y1 y2)
  clear y1 y2 T2
  go_wp2_with fail
  refine (hwrite_v T3.out.1 (mk_lim _ _ _ _ _) (by decide) (by decide) a0 a1 (k := 6) (r := 0) (by decide) (by decide) S2.out).mono ?_
  rintro e w4 ⟨rfl, y1, y2⟩
  have T4 := Lib.hid (T3.out.go (fun _ h => h) y1 y2)
  clear y1 y2 T3
  go_wp2_with fail
  refine (hwrite_v T4.out.1 (mk_lim _ _ _ _ _) (by decide) (by decide) (by decide) (by decide) (k := 6) (r := 1) (by decide) (by decide) S3.out).mono ?_
  rintro e w5 ⟨rfl, y1, y2⟩
  have T5 := Lib.hid (T4.out.go (fun _ h => h) y1 y2)
  clear y1 y2 T4
  go_wp2_with fail
  refine (tnew_any _).mono ?_
  rintro e w6 ⟨rfl, u6, b6⟩
  have T6 := Lib.hid (T5.out.on b6)
  have U6 : Hid (T0 w6 w5.heap.size Tm.new) := Lib.hid u6
  have hgu : g < w5.heap.size ∧ b.v < w5.heap.size ∧ b.c < w5.heap.size ∧ b.p < w5.heap.size := T5.out.1.lt
  have hBu : B ≤ w5.heap.size := T5.out.2.2.1
  clear u6 b6 T5
  generalize w5.heap.size = u at *
  have off : ∀ w x, T0 w u x → ∀ y ∈ [u], ∃ t cs, Blk w y t cs ∧ 5 ≠ t ∧ 69 ≠ t := fun w x h y hy => by
    obtain rfl := List.mem_singleton.1 hy
    exact ⟨_, _, h.1, by decide, by decide⟩
  have OFF := Lib.hid off
  clear off
  go_wp2_with fail
  refine (twrite_v U6.out a0 a1 (s' := ⟨0, 0, R, false⟩) (by unfold Tm.wr; rw [if_pos rfl, HR.out]; rfl)).mono ?_
  rintro e w7 ⟨rfl, y1, y2⟩
  have T7 : Hid (HT B W g d0 b (mkX ⟨0, R, R, true⟩ ⟨E, false⟩ 1 0) w7) := Lib.hid ⟨T6.out.1.kp y2 (OFF.out _ _ U6.out) (by simp; omega), y2.onto T6.out.2.1 T6.out.2.2.1 (by simpa using hBu), Nat.le_trans T6.out.2.2.1 y2.size, T6.out.2.2.2⟩
  have U7 := Lib.hid y1
  clear y1 y2 T6 U6
  go_wp2_with fail
  refine (twrite_v U7.out (by decide) (by decide) (s' := ⟨0, R, R, true⟩) (by rfl)).mono ?_
  rintro e w8 ⟨rfl, y1, y2⟩
  have T8 : Hid (HT B W g d0 b (mkX ⟨0, R, R, true⟩ ⟨E, false⟩ 1 0) w8) := Lib.hid ⟨T7.out.1.kp y2 (OFF.out _ _ U7.out) (by simp; omega), y2.onto T7.out.2.1 T7.out.2.2.1 (by simpa using hBu), Nat.le_trans T7.out.2.2.1 y2.size, T7.out.2.2.2⟩
  have U8 := Lib.hid y1
  clear y1 y2 T7 U7
  go_wp2_with fail
  refine (tuntil_v U8.out (v := .tuple #[.int .i64 N, .bool true]) (by unfold Tm.till; rw [if_pos rfl]; have := HN.out; simp; omega)).mono ?_
  rintro e w9 ⟨rfl, k9⟩
  have T9 := Lib.hid (T8.out.go (L := []) (fun _ h => by cases h) (T8.out.1.kp0 k9) k9)
  clear k9 T8 U8
  go_wp2_with fail
  refine (hgo_v T9.out.1 (by omega) S4.out).mono ?_
  rintro e w10 ⟨rfl, y1, y2⟩
  have T10 := Lib.hid (T9.out.go (by simp) y1 y2)
  clear y1 y2 T9
  go_wp2_with fail
  refine (hstatus_any T10.out.1).mono ?_
  rintro e w11 ⟨rfl, b11⟩
  have T11 := Lib.hid (T10.out.on b11)
  clear b11 T10
  go_wp2_with fail
  refine (hgo_v T11.out.1 (by omega) S5.out).mono ?_
  rintro e w12 ⟨rfl, y1, y2⟩
  have T12 := Lib.hid (T11.out.go (by simp) y1 y2)
  clear y1 y2 T11
  cases m with
  | true =>
    clear hand
    have hc : (mkX ⟨0, R, R, true⟩ ⟨E, true⟩ 1 N).ch d0 true = 0 := by rw [mk_ch]; unfold chI; simp [*]
    have HC := Lib.hid hc
    clear hc
    go_wp2_with fail
    refine (hchoose_v T12.out.1 HC.out).mono ?_
    rintro e w13 ⟨rfl, b13⟩
    have T13 := Lib.hid (T12.out.on b13)
    clear b13 T12 HC
    go_wp2_with fail
    refine (hwrite_v T13.out.1 (mk_lim _ _ _ _ _) (by decide) (by decide) (by decide) (by decide) (k := 8) (r := 3) (by decide) (by decide) S6.out).mono ?_
    rintro e w14 ⟨rfl, y1, y2⟩
    have T14 := Lib.hid (T13.out.go (fun _ h => h) y1 y2)
    clear y1 y2 T13
    have nn : ((N : Int) == (a % 128 + 1) * 3072) = true := by have := HN.out; have := ER.out; simp; omega
    go_wp2_with fail
    refine (hstatus_any T14.out.1).mono ?_
    rintro e w15 ⟨rfl, b15⟩
    have T15 := Lib.hid (T14.out.on b15)
    clear b15 T14
    go_wp2_with fail
    refine (hchoose_v T15.out.1 (m := false) (v := 0) (by rw [mk_ch]; unfold chI; simp)).mono ?_
    rintro e w16 ⟨rfl, b16⟩
    have T16 := Lib.hid (T15.out.on b16)
    go_wp2_with fail
    go_ret
    exact ⟨by simp, by rw [HBB.out]; exact T16.out.2.1⟩
  | false =>
    by_cases h4 : E / 4 = 0
    · have hx : (bits .and .u8 e 4 != 0) = false := by rw [hand, decide_eq_true h4]; rfl
      clear hand
      have hc : (mkX ⟨0, R, R, true⟩ ⟨E, true⟩ 1 N).ch d0 false = 3 := by rw [mk_ch]; unfold chI; simp [*]
      have HC := Lib.hid hc
      clear hc
      go_wp2_with fail
      refine (hchoose_v T12.out.1 HC.out).mono ?_
      rintro e w13 ⟨rfl, b13⟩
      have T13 := Lib.hid (T12.out.on b13)
      clear b13 T12 HC
      go_wp2_with fail
      refine (hwrite_v T13.out.1 (mk_lim _ _ _ _ _) (by decide) (by decide) (by decide) (by decide) (k := 8) (r := 3) (by decide) (by decide) S6.out).mono ?_
      rintro e w14 ⟨rfl, y1, y2⟩
      have T14 := Lib.hid (T13.out.go (fun _ h => h) y1 y2)
      clear y1 y2 T13
      have nn : ((N : Int) == (a % 128 + 1) * 3072) = true := by have := HN.out; have := ER.out; simp; omega
      go_wp2_with fail
      refine (hstatus_any T14.out.1).mono ?_
      rintro e w15 ⟨rfl, b15⟩
      have T15 := Lib.hid (T14.out.on b15)
      clear b15 T14
      go_wp2_with fail
      refine (hchoose_v T15.out.1 (m := false) (v := 0) (by rw [mk_ch]; unfold chI; simp)).mono ?_
      rintro e w16 ⟨rfl, b16⟩
      have T16 := Lib.hid (T15.out.on b16)
      go_wp2_with fail
      go_ret
      exact ⟨by simp, by rw [HBB.out]; exact T16.out.2.1⟩
    · have hx : (bits .and .u8 e 4 != 0) = true := by rw [hand, decide_eq_false h4]; rfl
      clear hand
      have hc : (mkX ⟨0, R, R, true⟩ ⟨E, true⟩ 1 N).ch d0 false = 0 := by rw [mk_ch]; unfold chI; simp [*]
      have HC := Lib.hid hc
      clear hc
      go_wp2_with fail
      refine (hchoose_v T12.out.1 HC.out).mono ?_
      rintro e w13 ⟨rfl, b13⟩
      have T13 := Lib.hid (T12.out.on b13)
      clear b13 T12 HC
      go_wp2_with fail
      refine (hwrite_v T13.out.1 (mk_lim _ _ _ _ _) (by decide) (by decide) (by decide) (by decide) (k := 8) (r := 3) (by decide) (by decide) S6.out).mono ?_
      rintro e w14 ⟨rfl, y1, y2⟩
      have T14 := Lib.hid (T13.out.go (fun _ h => h) y1 y2)
      clear y1 y2 T13
      have nn : ((N : Int) == (a % 128 + 1) * 3072) = true := by have := HN.out; have := ER.out; simp; omega
      go_wp2_with fail
      refine (hstatus_any T14.out.1).mono ?_
      rintro e w15 ⟨rfl, b15⟩
      have T15 := Lib.hid (T14.out.on b15)
      clear b15 T14
      go_wp2_with fail
      refine (hchoose_v T15.out.1 (m := false) (v := 0) (by rw [mk_ch]; unfold chI; simp)).mono ?_
      rintro e w16 ⟨rfl, b16⟩
      have T16 := Lib.hid (T15.out.on b16)
      go_wp2_with fail
      go_ret
      exact ⟨by simp, by rw [HBB.out]; exact T16.out.2.1⟩

theorem own : ownKnob Try.prog.godebug = none := by kernel_rfl
theorem laidOut : laidOutB Try.prog = true := by kernel_rfl
set_option maxRecDepth 100000 in
theorem lifted (os : Os) (started : os.Started) (H : Type) (enc : TypeId × Value → H) :
    ReturnsInHanded {} Try.checked os 6 .any (Rows.topTicksSpec.pre6 enc Try.prog Try.f6 Rows.topTicksRow.domain false) (Rows.topTicksSpec.post enc Try.prog Try.f6 false true false false) := by
  refine returnsInHanded_of_change (C := Try.checked) own started (by kernel_rfl) Try.func6
    (ChangeSpec.witness6 (enc := enc) (C := Try.checked) false ⟨#[], #[.int .u8 0, .int .u8 0, .bool false], []⟩ 8 (by kernel_rfl) (by kernel_rfl) (by kernel_rfl) (by kernel_rfl)) ?_
  intro W base args ds gs before hval0 hW _ _
  have hval : ∀ (j : Nat) t v, Try.f6.params[j]? = some t → args[j]? = some v → Value.okWide Try.prog W .any base t v := hval0
  have hW' := hW
  obtain ⟨p, q, hA0, hV, rfl, _, _⟩ := hW
  have hA : DataW.TrodAll enc Try.prog W 0 (fun _ => true) true Try.f6.params.toList args.toList ds p := hA0
  rw [Try.params6] at hA hval
  obtain ⟨v0, vs0, d0, ds0, p0, q0, hargs, rfl, rfl, h0, r0⟩ := trodAll_cons hA
  obtain ⟨v1, vs1, d1, ds1, p1, q1, rfl, rfl, rfl, h1, r1⟩ := trodAll_cons r0
  obtain ⟨v2, vs2, d2, ds2, p2, q2, rfl, rfl, rfl, h2, r2⟩ := trodAll_cons r1
  obtain ⟨rfl, rfl, rfl⟩ := trodAll_nil r2
  obtain rfl : args = #[v0, v1, v2] := by cases args; simp_all
  obtain ⟨rfl, rfl⟩ := trodVars_none hV
  obtain ⟨a0, rfl, rfl, rfl, w0⟩ := open_int Try.underlying5 (hval 0 5 v0 rfl rfl) h0
  obtain ⟨a1, rfl, rfl, rfl, w1⟩ := open_int Try.underlying5 (hval 1 5 v1 rfl rfl) h1
  obtain ⟨a2, rfl, rfl, rfl⟩ := open_bool Try.underlying4 (hval 2 4 v2 rfl rfl) h2
  clear hA0 hval0
  refine (walk a0 w0 a1 w1 a2 W).mono fun e W' ⟨he, hg⟩ => ?_
  subst he
  exact ⟨_, rfl, law_post rfl Try.underlying4 laidOut (by kernel_rfl) rfl hW' rfl hg⟩

theorem over : Rows.topTicksRow.holds Try.pinned (OpenSpec.ofChange Rows.topTicksSpec) :=
  OpenClaim.holds_of_wide 6 Try.f6 rfl rfl rfl rfl rfl rfl rfl ⟨rfl, rfl, rfl, rfl, rfl⟩ rfl rfl rfl rfl rfl (by kernel_rfl) Try.func6 (by kernel_rfl)
    (of_decide_eq_true (by kernel_rfl)) (by unfold Func.isWrapper; first | (rw [if_pos (by decide +kernel)]; kernel_rfl) | (rw [if_neg (by decide +kernel)]; exact ⟨rfl, rfl⟩))
    (fun os started H enc _ => lifted os started H enc)

theorem proved : Rows.TopTicksSaid := over
#print axioms proved
end Go.Proofs.Ytjknjlkjpccibaa.topTicks
