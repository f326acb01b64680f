/-
  For every input HardParts returns true, and each argument reads behind the call as it read before. No conditions.
-/
import Derived.Test.YtcnjekballnncaaGreatRows
import Derived.Test.YtcnjekballnncaaGreatKH01
import Derived.Test.YtcnjekballnncaaGreatKH43
namespace Go.Proofs.YtcnjekballnncaaGreat.hardParts
open Go.ChangeShapes Go.WideShapes Go.ChangeAt Go.RowKit
open Go.ChangeMaps (open_string)

set_option linter.unusedVariables false
set_option linter.unusedSimpArgs false
set_option maxRecDepth 100000 in
set_option maxHeartbeats 32000000 in
theorem walk {W : World} (A : Option Addr) (n c : Nat) (es : Nat → Iib) (hnc : n ≤ c) (hm : c ≤ maxLen) (RE : FRow W 3 A n (fun i => iibV .i64 .u8 (es i))) (FE : ∀ i, i < n → (Lit.int .i64 (es i).a).wf = true ∧ (Lit.int .u8 (es i).b).wf = true) (NE : A = none → n = 0 ∧ c = 0) (A1 : Option Addr) (n1 c1 : Nat) (q1 : Nat → Nat → Value) (hnc1 : n1 ≤ c1) (hm1 : c1 ≤ maxLen) (R1 : FRow W 4 A1 n1 q1) (F1 : ∀ i, i < n1 → ∀ (j : Nat) (k : FK), [FK.int .u8, .int .u16, .int .u8, .int .u32][j]? = some k → k.ok (q1 i j)) (A2 : Option Addr) (n2 c2 : Nat) (z2 : Nat → Int) (hnc2 : n2 ≤ c2) (hm2 : c2 ≤ maxLen) (R2 : IRow W .u32 A2 n2 z2) :
    Calls Tryz.prog 4 #[.slice A n c, .slice A1 n1 c1, .slice A2 n2 c2] W fun e w' => e = .returned (.bool true) ∧ Below W.heap.size W w' := by
  unfold maxLen at hm hm1 hm2
  have HRE := Lib.hid RE
  have HFE := Lib.hid FE
  have HNE := Lib.hid NE
  have HR1 := Lib.hid R1
  have HF1 : Hid (StepsOk n1 q1) := Lib.hid F1
  have HR2 := Lib.hid R2
  clear RE FE NE R1 F1 R2
  go_enter Tryz.func4, Tryz.ntmps4
  go_wp2_with fail
  refine (liveH_any _).mono ?_
  rintro e w1 ⟨rfl, b1⟩
  have HB := Lib.hid b1
  clear b1
  go_wp2_with fail
  refine (near_any (FRow.keep HR1.out HB.out) HF1.out (by omega)).mono ?_
  rintro e w' ⟨⟨b1, rfl, hs1⟩, rfl⟩
  have HS1 := Lib.hid hs1
  clear hs1
  cases b1 with
  | false =>
    go_wp2_with fail
    go_ret
    exact ⟨rfl, HB.out⟩
  | true =>
  by_cases h60 : 60 < n2
  · have j60 : (60 : Int) < n2 := by omega
    go_wp2_with fail
    go_ret
    exact ⟨rfl, HB.out⟩
  have j60 : ¬ (60 : Int) < n2 := by omega
  go_upto_region 5 with fail
  by_cases hk : ¬ (chk es n).1 = 0
  · have HNK : Hid ((chk es n).1 ≠ 0) := Lib.hid hk
    obtain ⟨⟨a, b⟩, hab⟩ : ∃ r, chk es n = r := ⟨_, rfl⟩
    have HAB := Lib.hid hab
    have na : (a != 0) = true := by
      have := HNK.out
      rw [hab] at this
      simpa using this
    clear hab hk
    go_wp2_with fail
    refine (hnew_bad (n1 := 0) (n2 := 0) (n3 := 0) (FRow.keep HRE.out HB.out) (by omega) (by omega) HNK.out).mono ?_
    rw [HAB.out]
    rintro e w2 ⟨rfl, b2⟩
    have hsz := HB.out.size
    replace HB := Lib.hid (HB.out.trans (b2.mono hsz))
    clear b2 hsz
    go_upto_region 6 with fail
    have hsz := HB.out.size
    have X1 := Lib.hid (Blk.new w2 32 #[.int .i64 a, .int .i64 b])
    replace HB := Lib.hid (HB.out.alloc hsz (.cells #[.int .i64 a, .int .i64 b] 32))
    clear hsz
    generalize w2.heap.size = gX1 at *
    generalize World.alloc w2 _ = w3 at *
    have x0 : w3.cell? ⟨gX1, 0, none⟩ = some (.int .i64 a) := X1.out.cell 0
    go_wp2_with fail
    go_ret
    exact ⟨rfl, HB.out⟩
  replace hk := Decidable.not_not.1 hk
  obtain ⟨gq1, gq2, _⟩ := chk_zero hk
  have GD : Hid (Good n es) := Lib.hid ⟨gq1, gq2, fun j hj => (bounds_u8 (HFE.out j hj).2).1⟩
  have HK := Lib.hid hk
  clear hk gq2
  go_wp2_with fail
  refine (hnew_yes (n1 := 0) (c1 := 0) (n2 := 0) (c2 := 0) (n3 := 0) (c3 := 0) (z1 := fun _ => 0) (z2 := fun _ => 0) (z3 := fun _ => 0) (fun _ => ⟨rfl, rfl⟩) (fun _ => ⟨rfl, rfl⟩) (fun _ => ⟨rfl, rfl⟩) HNE.out (fun i hi => absurd hi (Nat.not_lt_zero _)) (fun i hi => absurd hi (Nat.not_lt_zero _)) (fun i hi => absurd hi (Nat.not_lt_zero _)) (FRow.keep HRE.out HB.out) (by omega) (by omega) HK.out GD.out).mono ?_
  rintro e w2 ⟨g, b, rfl, hg, h2, b2⟩
  have hW : W.heap.size ≤ w1.heap.size := HB.out.size
  replace HB := Lib.hid (HB.out.trans (b2.mono hW))
  have H2 := Lib.hid h2
  have hgl : W.heap.size ≤ g ∧ W.heap.size ≤ b.v ∧ W.heap.size ≤ b.c ∧ W.heap.size ≤ b.p := ⟨Nat.le_trans hW hg.1, Nat.le_trans hW hg.2.1, Nat.le_trans hW hg.2.2.1, Nat.le_trans hW hg.2.2.2⟩
  clear b2 h2 hg hW
  go_upto_region 6 with fail
  replace H2 := Lib.hid (H2.out.keep ((Below.refl w2.heap.size w2).alloc (Nat.le_refl _) (.cells #[.int .i64 0, .int .i64 0] 32)))
  have hsz := HB.out.size
  have X1 := Lib.hid (Blk.new w2 32 #[.int .i64 0, .int .i64 0])
  replace HB := Lib.hid (HB.out.alloc hsz (.cells #[.int .i64 0, .int .i64 0] 32))
  clear hsz
  generalize w2.heap.size = gX1 at *
  generalize World.alloc w2 _ = w3 at *
  have x0 : w3.cell? ⟨gX1, 0, none⟩ = some (.int .i64 0) := X1.out.cell 0
  go_wp2_with fail
  refine (rhnew_yes (n1 := 0) (c1 := 0) (n2 := 0) (c2 := 0) (n3 := 0) (c3 := 0) (z1 := fun _ => 0) (z2 := fun _ => 0) (z3 := fun _ => 0) (FRow.keep HRE.out HB.out) (by omega) (by omega) HK.out).mono ?_
  rintro e w4 ⟨r, J, rfl, hr, h4, b4⟩
  have hW : W.heap.size ≤ w3.heap.size := HB.out.size
  replace HB := Lib.hid (HB.out.trans (b4.mono hW))
  replace H2 := Lib.hid (H2.out.keep b4)
  have R4 := Lib.hid h4
  have hrl : ∀ y ∈ J.all r, W.heap.size ≤ y := fun y hy => Nat.le_trans hW (hr y hy)
  clear b4 h4 hr hW X1 x0
  go_upto_region 9 with fail
  replace H2 := Lib.hid (H2.out.keep ((Below.refl w4.heap.size w4).alloc (Nat.le_refl _) (.cells #[.int .i64 0, .int .i64 0] 32)))
  replace R4 := Lib.hid (R4.out.keep ((Below.refl w4.heap.size w4).alloc (Nat.le_refl _) (.cells #[.int .i64 0, .int .i64 0] 32)))
  have hsz := HB.out.size
  have X2 := Lib.hid (Blk.new w4 32 #[.int .i64 0, .int .i64 0])
  replace HB := Lib.hid (HB.out.alloc hsz (.cells #[.int .i64 0, .int .i64 0] 32))
  clear hsz
  generalize w4.heap.size = gX2 at *
  generalize World.alloc w4 _ = w5 at *
  have HI5 : Hid (HX W w5 g ⟨n, es, 0, fun _ => 0, 0, fun _ => 0, 0, fun _ => 0⟩ b r J ⟨none, 0, none, 0, none, 0, A, c⟩ Hp.new) := Lib.hid ⟨H2.out, R4.out, HB.out, ⟨fun y hy => by simp only [List.mem_cons, List.not_mem_nil, or_false] at hy; rcases hy with rfl | rfl | rfl | rfl <;> omega, hrl⟩⟩
  have HCC : Hid (HC W ⟨n, es, 0, fun _ => 0, 0, fun _ => 0, 0, fun _ => 0⟩ ⟨none, 0, none, 0, none, 0, A, c⟩) := Lib.hid ⟨⟨(fun i hi => absurd hi (Nat.not_lt_zero _)), (fun i hi => absurd hi (Nat.not_lt_zero _)), (fun i hi => absurd hi (Nat.not_lt_zero _)), HRE.out⟩, by dsimp only; omega⟩
  go_wp2_with fail
  refine (hplay_any HI5.out HCC.out HR1.out HF1.out (HS1.out (by trivial)) Hp.new_far (by omega)).mono ?_
  rintro e w6 ⟨rfl, ⟨x, hx, hf⟩, k6⟩
  have HI6 := Lib.hid hx
  have hx0 : 0 ≤ x.now := hx.hp.ok.2.2.2.2.2
  have hx1 : x.now ≤ 60000000 := by have := hf.2; omega
  have HOK := Lib.hid hx.hp.ok
  clear hx hf k6 HI5 H2 R4 X2 HB
  go_wp2_with fail
  refine (hclone_page HI6.out.hp (by dsimp only; omega)).mono ?_
  rintro e w7 ⟨g2, b2, rfl, hg2, h7, h7', k7⟩
  have hW6 : W.heap.size ≤ w6.heap.size := HI6.out.bw.size
  have LT6 := Lib.hid HI6.out.lt
  have hL : ∀ z ∈ [b.v, b.c, b.p], z ∈ [g, b.v, b.c, b.p] := fun z hz => List.mem_cons_of_mem _ hz
  have HI7 : Hid (HX W w7 g ⟨n, es, 0, fun _ => 0, 0, fun _ => 0, 0, fun _ => 0⟩ b r J ⟨none, 0, none, 0, none, 0, A, c⟩ x) := Lib.hid ⟨h7', HI6.out.ref1 hL k7, HI6.out.bw1 hL k7, HI6.out.lo⟩
  have H7 := Lib.hid h7
  have HNG : Hid (∀ y ∈ hxL g b r J, y ∉ [g2]) := Lib.hid fun y hy hy2 => by
    have l1 := LT6.out y hy
    simp only [List.mem_cons, List.not_mem_nil, or_false] at hy2
    omega
  have hgW : W.heap.size ≤ g2 := by omega
  have hgg : g ∉ [b2.v, b2.c, b2.p] ∧ g ≠ g2 ∧ b2.v ≠ g ∧ b2.c ≠ g ∧ b2.p ≠ g := by
    have := LT6.out g (by simp [hxL])
    simp; omega
  clear h7 h7' k7 hL HI6 hg2 LT6
  obtain ⟨v, hv⟩ : ∃ v, x.now = v := ⟨_, rfl⟩
  have HVV := Lib.hid hv
  rw [hv] at hx0 hx1
  clear hv
  go_wp2_with fail
  refine (hnow_v HI7.out.hp HVV.out).mono ?_
  rintro e w' ⟨rfl, rfl⟩
  go_wp2_with fail
  go_loopw [12, 13] (fun e i wr => ∃ (k : Nat) (E : Int), k ≤ n2 ∧ i = .int .i64 k ∧ e = .int .i64 E ∧ v ≤ E ∧ E ≤ v + 4294967296 * (k : Int) ∧ HX W wr g ⟨n, es, 0, fun _ => 0, 0, fun _ => 0, 0, fun _ => 0⟩ b r J ⟨none, 0, none, 0, none, 0, A, c⟩ x ∧ HP wr g2 ⟨n, es, 0, fun _ => 0, 0, fun _ => 0, 0, fun _ => 0⟩ b2 (x.to ⟨n, es, 0, fun _ => 0, 0, fun _ => 0, 0, fun _ => 0⟩ E)) (fun _ i _ => n2 - (intOf i).toNat)
  case atStart => exact ⟨0, v, by omega, rfl, rfl, by omega, by omega, HI7.out, by rw [show Hp.to _ x v = x by unfold Hp.to; rw [if_pos (by rw [HVV.out]; omega)]]; exact H7.out⟩
  case round =>
    obtain ⟨k, E, hk, rfl, rfl, hE0, hE1, hI, hP⟩ := hrel
    have HI := Lib.hid hI
    have HPP := Lib.hid hP
    clear hI hP HI7 H7
    have hbW := HI.out.bw
    by_cases hlt : k < n2
    · obtain ⟨ad, rfl, hl, hc, hw⟩ := IRow.keep HR2.out hbW k hlt
      obtain ⟨u, hu⟩ : ∃ u, z2 k = u := ⟨_, rfl⟩
      rw [hu] at hc hw
      obtain ⟨u0, u1⟩ := bounds_u32 hw
      have i0 : (0 : Int) ≤ (k : Int) := by omega
      have i1 : (k : Int) < n2 := by omega
      have hE2 : E + u ≤ 9223372036854775807 := by omega
      clear hw hu hbW
      go_wp2_with fail
      try rw [show IntKind.i64.wrap u = u from IntWalk.i64_in _ (by omega)]
      try rw [show IntKind.i64.wrap (E + u) = E + u from IntWalk.i64_in _ (by omega)]
      refine (hgo_any HPP.out (E + u) hE2).mono ?_
      rw [Hp.to_two HOK.out (by rw [HVV.out]; exact hE0) (by omega)]
      rintro e w9 ⟨rfl, y9, k9⟩
      have HI9 := Lib.hid (HI.out.other k9 (fun y hy => by
        simp only [List.mem_cons, List.not_mem_nil, or_false] at hy
        subst hy
        obtain ⟨A', c', hb', _⟩ := HPP.out
        exact ⟨_, _, hb', by decide, by decide⟩) (by simpa using hgW) HNG.out)
      have HP9 := Lib.hid y9
      clear y9 k9 hc HI HPP
      go_wp2_with fail
      go_roundw
      case rel => exact ⟨k + 1, E + u, by omega, by go_num, rfl, by omega, by omega, HI9.out, HP9.out⟩
      case measure => simp [intOf]; omega
    · obtain rfl : k = n2 := by omega
      clear hbW
      have hE2 : E ≤ 9223372036854775807 := by omega
      go_wp2_with fail
      refine (hgo_any HI.out.hp E hE2).mono ?_
      rintro e w9 ⟨rfl, y9, k9⟩
      have HB9 := Lib.hid (HI.out.bw1 (by simp) k9)
      have HQ9 : Hid (HP w9 g2 ⟨n, es, 0, fun _ => 0, 0, fun _ => 0, 0, fun _ => 0⟩ b2 (x.to ⟨n, es, 0, fun _ => 0, 0, fun _ => 0, 0, fun _ => 0⟩ E)) := Lib.hid (HPP.out.kp k9 (fun y hy => by
        simp only [List.mem_cons, List.not_mem_nil, or_false] at hy
        subst hy
        obtain ⟨A', c', hb', _⟩ := HI.out.hp
        exact ⟨_, _, hb', by decide, by decide⟩) (by simp; omega))
      have HP9 := Lib.hid y9
      clear y9 k9 HI HPP
      obtain ⟨y, hy⟩ : ∃ y, x.to ⟨n, es, 0, fun _ => 0, 0, fun _ => 0, 0, fun _ => 0⟩ E = y := ⟨_, rfl⟩
      rw [hy] at HP9 HQ9
      clear hy
      obtain ⟨v1, hv1⟩ : ∃ q, y.now = q := ⟨_, rfl⟩
      obtain ⟨v2, hv2⟩ : ∃ q, y.ch ⟨n, es, 0, fun _ => 0, 0, fun _ => 0, 0, fun _ => 0⟩ false = q := ⟨_, rfl⟩
      have m1 : (v1 == v1) = true := by simp
      have m2 : (v2 == v2) = true := by simp
      have HV1 := Lib.hid hv1
      have HV2 := Lib.hid hv2
      clear hv1 hv2
      go_wp2_with fail
      refine (hstatus_any HP9.out).mono ?_
      rintro e w10 ⟨rfl, b10⟩
      have HP10 := Lib.hid (HP9.out.keep b10)
      have HQ10 := Lib.hid (HQ9.out.keep b10)
      have HB10 := Lib.hid (HB9.out.trans (b10.mono HB9.out.size))
      clear b10 HP9 HQ9 HB9
      go_wp2_with fail
      refine (hstatus_any HQ10.out).mono ?_
      rintro e w11 ⟨rfl, b11⟩
      have HP11 := Lib.hid (HP10.out.keep b11)
      have HQ11 := Lib.hid (HQ10.out.keep b11)
      have HB11 := Lib.hid (HB10.out.trans (b11.mono HB10.out.size))
      clear b11 HP10 HQ10 HB10
      unfold stC
      go_wp2_with fail
      refine (hnow_v HP11.out HV1.out).mono ?_
      rintro e w' ⟨rfl, rfl⟩
      go_wp2_with fail
      refine (hnow_v HQ11.out HV1.out).mono ?_
      rintro e w' ⟨rfl, rfl⟩
      go_wp2_with fail
      refine (hchoose_v HP11.out HV2.out).mono ?_
      rintro e w12 ⟨rfl, b12⟩
      have HQ12 := Lib.hid (HQ11.out.keep b12)
      have HB12 := Lib.hid (HB11.out.trans (b12.mono HB11.out.size))
      clear b12 HP11 HQ11 HB11
      go_wp2_with fail
      refine (hchoose_v HQ12.out HV2.out).mono ?_
      rintro e w13 ⟨rfl, b13⟩
      have HB13 := Lib.hid (HB12.out.trans (b13.mono HB12.out.size))
      clear b13 HQ12 HB12
      go_wp2_with fail
      go_ret
      exact ⟨by simp, HB13.out⟩

theorem own : ownKnob Tryz.prog.godebug = none := by kernel_rfl
theorem laidOut : laidOutB Tryz.prog = true := by kernel_rfl
set_option maxRecDepth 100000 in
theorem lifted (os : Os) (started : os.Started) (H : Type) (enc : TypeId × Value → H) :
    ReturnsInHanded {} Tryz.checked os 4 .any (Rows.hardPartsSpec.pre6 enc Tryz.prog Tryz.f4 Rows.hardPartsRow.domain false) (Rows.hardPartsSpec.post enc Tryz.prog Tryz.f4 false true false false) := by
  refine returnsInHanded_of_change (C := Tryz.checked) own started (by kernel_rfl) Tryz.func4
    (ChangeSpec.witness6 (enc := enc) (C := Tryz.checked) false ⟨#[], #[.slice none 0 0, .slice none 0 0, .slice none 0 0], []⟩ 8 (by kernel_rfl) (by kernel_rfl) (by kernel_rfl) (by kernel_rfl)) ?_
  intro W base args ds gs before hval0 hW _ _
  have hval : ∀ (j : Nat) t v, Tryz.f4.params[j]? = some t → args[j]? = some v → Value.okWide Tryz.prog W .any base t v := hval0
  have hW' := hW
  obtain ⟨p, q, hA0, hV, rfl, _, _⟩ := hW
  have hA : DataW.TrodAll enc Tryz.prog W 0 (fun _ => true) true Tryz.f4.params.toList args.toList ds p := hA0
  rw [Tryz.params4] at hA hval
  obtain ⟨v0, vs0, d0, ds0, p0, q0, hargs, rfl, rfl, h0, r0⟩ := trodAll_cons hA
  obtain ⟨v1, vs1, d1, ds1, p1, q1, rfl, rfl, rfl, h1, r1⟩ := trodAll_cons r0
  obtain ⟨v2, vs2, d2, ds2, p2, q2, rfl, rfl, rfl, h2, r2⟩ := trodAll_cons r1
  obtain ⟨rfl, rfl, rfl⟩ := trodAll_nil r2
  obtain rfl : args = #[v0, v1, v2] := by cases args; simp_all
  obtain ⟨rfl, rfl⟩ := trodVars_none hV
  obtain ⟨A0, n0, c0, z0, rfl, g0, m0, R0, F0, N0⟩ := slice_iib Tryz.underlying25 Tryz.underlying129 (by kernel_rfl) (by kernel_rfl) Tryz.underlying2 Tryz.underlying5 Tryz.underlying4 (hval 0 25 v0 rfl rfl) h0
  obtain ⟨A1, n1, c1, q1, rfl, g1, m1, R1, F1, N1⟩ := slice_fk _ [.int .u8, .int .u16, .int .u8, .int .u32] Tryz.underlying26 Tryz.underlying65 (by kernel_rfl) (by kernel_rfl) rfl (by decide)
    (fun j k h => match j, h with
      | 0, h => by cases h; exact ⟨_, rfl, Tryz.underlying5⟩
      | 1, h => by cases h; exact ⟨_, rfl, Tryz.underlying58⟩
      | 2, h => by cases h; exact ⟨_, rfl, Tryz.underlying5⟩
      | 3, h => by cases h; exact ⟨_, rfl, Tryz.underlying54⟩
      | j + 4, h => by simp at h) (hval 1 26 v1 rfl rfl) h1
  obtain ⟨A2, n2, c2, z2, rfl, g2, m2, R2⟩ := slice_ints Tryz.underlying53 Tryz.underlying54 (by kernel_rfl) (hval 2 53 v2 rfl rfl) h2
  clear hA0 hval0
  refine (walk A0 n0 c0 z0 g0 m0 R0 F0 N0 A1 n1 c1 q1 g1 m1 R1 F1 A2 n2 c2 z2 g2 m2 R2).mono fun e W' ⟨he, hg⟩ => ?_
  subst he
  exact ⟨_, rfl, law_post rfl Tryz.underlying4 laidOut (by kernel_rfl) rfl hW' rfl hg⟩

theorem over : Rows.hardPartsRow.holds Tryz.pinned (OpenSpec.ofChange Rows.hardPartsSpec) :=
  OpenClaim.holds_of_wide 4 Tryz.f4 rfl rfl rfl rfl rfl rfl rfl ⟨rfl, rfl, rfl, rfl, rfl⟩ rfl rfl rfl rfl rfl (by kernel_rfl) Tryz.func4 (by kernel_rfl)
    (of_decide_eq_true (by kernel_rfl)) (by unfold Func.isWrapper; first | (rw [if_pos (by decide +kernel)]; kernel_rfl) | (rw [if_neg (by decide +kernel)]; exact ⟨rfl, rfl⟩))
    (fun os started H enc _ => lifted os started H enc)

theorem proved : Rows.HardPartsSaid := over
#print axioms proved
end Go.Proofs.YtcnjekballnncaaGreat.hardParts
