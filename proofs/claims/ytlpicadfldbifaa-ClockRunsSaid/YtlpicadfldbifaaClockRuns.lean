/-
  For every input ClockRuns returns true, and each argument reads behind the call as it read before. No conditions.
-/
import Derived.Test.YtlpicadfldbifaaRows
import Derived.Test.YtlpicadfldbifaaG3
import Derived.Test.YtlpicadfldbifaaG5
import Derived.Test.YtlpicadfldbifaaG6
import Derived.Test.YtlpicadfldbifaaG7
import Derived.Test.YtlpicadfldbifaaC4
namespace Go.Proofs.Ytlpicadfldbifaa.clockRuns
open Go.ChangeShapes Go.WideShapes Go.ChangeAt Go.RowKit
open Go.ChangeMaps (open_string)

set_option linter.unusedVariables false
theorem heldI_bd (n : Int) : 0 ≤ heldI n ∧ heldI n ≤ 1125899906842624 := by unfold heldI; split <;> (try split) <;> omega
theorem b_of (b : Bool) : (b != b) = false := by cases b <;> rfl
set_option maxHeartbeats 4000000 in
theorem walk {W : World} (s : Int) (ws : (Lit.int .i64 s).wf = true) (f : Bool) (A : Option Addr) (n c : Nat) (z : Nat → Int) (hnc : n ≤ c) (hc : c ≤ maxLen) (R : IRow W .u8 A n z) (A2 : Option Addr) (n2 c2 : Nat) (z2 : Nat → Int) (hnc2 : n2 ≤ c2) (hc2 : c2 ≤ maxLen) (R2 : IRow W .u8 A2 n2 z2) :
    Calls Try.prog 9 #[.int .i64 s, .bool f, .slice A n c, .slice A2 n2 c2] W fun e w' => e = .returned (.bool true) ∧ Below W.heap.size W w' := by
  unfold maxLen at hc hc2
  clear ws
  have hs := heldI_bd s
  by_cases b1 : 300 < n
  · have b1' : (300 : Int) < n := by omega
    go_enter Try.func9, Try.ntmps9
    go_wp2_with (go_at_call 36; refine (liveC_any _).mono ?_; rintro e wl ⟨rfl, hbl⟩)
    go_ret
    exact ⟨rfl, hbl⟩
  by_cases b2 : 300 < n2
  · have b2' : (300 : Int) < n2 := by omega
    have b1' : ¬ (300 : Int) < n := by omega
    go_enter Try.func9, Try.ntmps9
    go_wp2_with (go_at_call 36; refine (liveC_any _).mono ?_; rintro e wl ⟨rfl, hbl⟩)
    go_ret
    exact ⟨rfl, hbl⟩
  have b1' : ¬ (300 : Int) < n := by omega
  have b2' : ¬ (300 : Int) < n2 := by omega
  go_enter Try.func9, Try.ntmps9
  go_wp2_with (go_at_call 36; refine (liveC_any _).mono ?_; rintro e wl ⟨rfl, hbl⟩)
  refine (at_new _ _ _).mono ?_
  rintro e w1 ⟨rfl, hg1, q1⟩
  have z0 := hbl.size
  have z1 := q1.size
  have l1 := hg1.lt
  go_wp2_with fail
  refine (rat_new _ _ _).mono ?_
  rintro e w2 ⟨rfl, hr2, q2⟩
  have z2 := q2.size
  have l2 := hr2.lt
  have HG := hg1.below q2 l1
  clear hg1
  have hB := (hbl.trans (q1.mono z0)).trans (q2.mono (by omega))
  have hBo : Both w2 wl.heap.size w1.heap.size (heldI s) 0 := ⟨f, false, false, false, HG, hr2, fun _ => rfl, fun e => by cases e⟩
  obtain ⟨c0, c1, c2, c3, c4, hf⟩ := rk_cells hr2
  have NB := b_of f
  generalize hgg : wl.heap.size = g at *
  generalize hrr : w1.heap.size = r at *
  have HGG := Lib.hid hgg
  have HRR := Lib.hid hrr
  clear hgg hrr
  go_wp2_with fail
  go_quiet ((first | (go_at_call 39; exact Calls.quiet_of_same (now_any (HG.drewN _))) | (go_at_call 40; exact Calls.quiet_of_same (fast_any (HG.drewN _))) | (go_at_call 41; exact Calls.quiet_of_same (cycles_any (HG.drewN _)))))
  have HG0 := HG.drewN nq
  have HR0 := hr2.drewN nq
  have hB0 := below_drewN hB nq
  have hBo0 : Both (w2.drewN nq) g r (heldI s) 0 := hBo
  have z3 : r < (w2.drewN nq).heap.size := l2
  generalize w2.drewN nq = w3 at *
  clear HG hr2 hB hBo c0 c1 c2 c3 c4 hf q2 q1 l2 HG0 HR0 NB
  go_wp2_with fail
  go_loopw [11] (fun i wr => ∃ k : Nat, k ≤ n ∧ i = .int .i64 k ∧ ∃ now cyc : Int, Both wr g r now cyc ∧ 0 ≤ now ∧ now ≤ 1125899906842624 + 24 * k ∧ 0 ≤ cyc ∧ cyc ≤ 2 * k ∧ Below W.heap.size W wr ∧ r < wr.heap.size) (fun i _ => n - (intOf i).toNat)
  case atStart => exact ⟨0, by omega, rfl, _, _, hBo0, by omega, by omega, by omega, by omega, hB0, z3⟩
  case round =>
    obtain ⟨k, hk, rfl, now, cyc, hBo, n0, n1, k0, k1, hB, zr⟩ := hrel
    have zB := hB.size
    by_cases hlt : k < n
    · obtain ⟨ad, rfl, hl, hc, hw⟩ := R k hlt
      have bz := bounds_u8 hw
      have hcell := (hB.cell (p := ad.add k) (by rw [block_of_add]; exact hl)).trans hc
      clear hc hw
      go_wp2_with fail
      refine (step_any (B := W.heap.size) _ bz.1 bz.2 hBo (by omega) (by omega) (by omega) (by omega) (by omega) (by omega) (by omega)).mono ?_
      rintro e w1 ⟨rfl, hB1, now', cyc', hBo1, a1, a2, a3, a4⟩
      have z1 := hB1.size
      go_wp2_with fail
      go_roundw
      case rel => exact ⟨k + 1, by omega, by go_num, _, _, hBo1, by omega, by omega, by omega, by omega, hB.trans hB1, by omega⟩
      case measure => simp [intOf]; omega
    · obtain rfl : k = n := by omega
      obtain ⟨ff, aa, nx, nr, HG, HR, ha, hb⟩ := hBo
      have ha := Lib.hid ha
      have hb := Lib.hid hb
      go_wp2_with fail
      refine (clone_any HG).mono ?_
      rintro e w4 ⟨rfl, hg4, q4⟩
      have z4 := q4.size
      have l4 := hg4.lt
      have HR4 := HR.below q4 zr
      go_wp2_with fail
      refine (copy_any HR4).mono ?_
      rintro e w5 ⟨rfl, hr5, q5⟩
      have z5 := q5.size
      have l5 := hr5.lt
      have hG5 := (HG.below q4 (by omega)).below q5 (by omega)
      have hR5 := HR4.below q5 (by omega)
      have hg5 := hg4.below q5 l4
      have hBo5 : Both w5 wr.heap.size w4.heap.size now cyc := ⟨ff, aa, nx, nr, hg5, hr5, ha.out, hb.out⟩
      have hB5 := (q4.trans (q5.mono z4)).mono zB
      generalize wr.heap.size = u at *
      generalize w4.heap.size = v at *
      clear ha hb hBo0 hB0 HG HR hg4 HR4 hr5 hg5 q4 q5
      go_wp2_with fail
      go_loopw [14] (fun i wv => ∃ k : Nat, k ≤ n2 ∧ i = .int .i64 k ∧ ∃ now cyc : Int, Both wv u v now cyc ∧ 0 ≤ now ∧ now ≤ 1125899906842624 + 24 * (300 + k) ∧ 0 ≤ cyc ∧ cyc ≤ 2 * (300 + k) ∧ Below u w5 wv ∧ v < wv.heap.size) (fun i _ => n2 - (intOf i).toNat)
      case atStart => exact ⟨0, by omega, rfl, _, _, hBo5, by omega, by omega, by omega, by omega, Below.refl _ _, l5⟩
      case round =>
        obtain ⟨k, hk, rfl, now2, cyc2, hBo, n0, n1, k0, k1, hBv, zv⟩ := hrel
        have zBv := hBv.size
        by_cases hlt : k < n2
        · obtain ⟨ad, rfl, hl, hc, hw⟩ := R2 k hlt
          have bz := bounds_u8 hw
          have hcell := ((hB.trans (hB5.trans (hBv.mono zB))).cell (p := ad.add k) (by rw [block_of_add]; exact hl)).trans hc
          clear hc hw
          go_wp2_with fail
          refine (step_any (B := u) _ bz.1 bz.2 hBo (by omega) (by omega) (by omega) (by omega) (by omega) (by omega) (by omega)).mono ?_
          rintro e w6 ⟨rfl, hB6, now', cyc', hBo6, a1, a2, a3, a4⟩
          have z6 := hB6.size
          go_wp2_with fail
          go_roundw
          case rel => exact ⟨k + 1, by omega, by go_num, _, _, hBo6, by omega, by omega, by omega, by omega, hBv.trans hB6, by omega⟩
          case measure => simp [intOf]; omega
        · obtain rfl : k = n2 := by omega
          have HG := hG5.below hBv (by omega)
          have HR := hR5.below hBv (by omega)
          obtain ⟨c0, c1, c2, c3, c4, hf⟩ := rk_cells HR
          go_wp2_with fail
          go_quiet ((first | (go_at_call 39; exact Calls.quiet_of_same (now_any (HG.drewN _))) | (go_at_call 40; exact Calls.quiet_of_same (fast_any (HG.drewN _))) | (go_at_call 41; exact Calls.quiet_of_same (cycles_any (HG.drewN _)))))
          go_wp2_with fail
          go_ret
          exact ⟨rfl, below_drewN (hB.trans (hB5.trans (hBv.mono zB))) _⟩

theorem own : ownKnob Try.prog.godebug = none := by kernel_rfl
theorem laidOut : laidOutB Try.prog = true := by kernel_rfl
set_option maxRecDepth 100000 in
theorem lifted (os : Os) (started : os.Started) (H : Type) (enc : TypeId × Value → H) :
    ReturnsInHanded {} Try.checked os 9 .any (Rows.clockRunsSpec.pre6 enc Try.prog Try.f9 Rows.clockRunsRow.domain false) (Rows.clockRunsSpec.post enc Try.prog Try.f9 false true false false) := by
  refine returnsInHanded_of_change (C := Try.checked) own started (by kernel_rfl) Try.func9
    (ChangeSpec.witness6 (enc := enc) (C := Try.checked) false ⟨#[], #[.int .i64 0, .bool false, .slice none 0 0, .slice none 0 0], []⟩ 8 (by kernel_rfl) (by kernel_rfl) (by kernel_rfl) (by kernel_rfl)) ?_
  intro W base args ds gs before hval0 hW _ _
  have hval : ∀ (j : Nat) t v, Try.f9.params[j]? = some t → args[j]? = some v → Value.okWide Try.prog W .any base t v := hval0
  have hW' := hW
  obtain ⟨p, q, hA0, hV, rfl, _, _⟩ := hW
  have hA : DataW.TrodAll enc Try.prog W 0 (fun _ => true) true Try.f9.params.toList args.toList ds p := hA0
  rw [Try.params9] at hA hval
  obtain ⟨v0, vs0, d0, ds0, p0, q0, hargs, rfl, rfl, h0, r0⟩ := trodAll_cons hA
  obtain ⟨v1, vs1, d1, ds1, p1, q1, rfl, rfl, rfl, h1, r1⟩ := trodAll_cons r0
  obtain ⟨v2, vs2, d2, ds2, p2, q2, rfl, rfl, rfl, h2, r2⟩ := trodAll_cons r1
  obtain ⟨v3, vs3, d3, ds3, p3, q3, rfl, rfl, rfl, h3, r3⟩ := trodAll_cons r2
  obtain ⟨rfl, rfl, rfl⟩ := trodAll_nil r3
  obtain rfl : args = #[v0, v1, v2, v3] := by cases args; simp_all
  obtain ⟨rfl, rfl⟩ := trodVars_none hV
  obtain ⟨a0, rfl, rfl, rfl, w0⟩ := open_int Try.underlying2 (hval 0 2 v0 rfl rfl) h0
  obtain ⟨a1, rfl, rfl, rfl⟩ := open_bool Try.underlying4 (hval 1 4 v1 rfl rfl) h1
  obtain ⟨A2, n2, c2, z2, rfl, g2, m2, R2⟩ := slice_ints Try.underlying46 Try.underlying55 (by kernel_rfl) (hval 2 46 v2 rfl rfl) h2
  obtain ⟨A3, n3, c3, z3, rfl, g3, m3, R3⟩ := slice_ints Try.underlying46 Try.underlying55 (by kernel_rfl) (hval 3 46 v3 rfl rfl) h3
  clear hA0 hval0
  refine (walk a0 w0 a1 A2 n2 c2 z2 g2 m2 R2 A3 n3 c3 z3 g3 m3 R3).mono fun e W' ⟨he, hg⟩ => ?_
  subst he
  exact ⟨_, rfl, law_post rfl Try.underlying4 laidOut (by kernel_rfl) rfl hW' rfl hg⟩

theorem over : Rows.clockRunsRow.holds Try.pinned (OpenSpec.ofChange Rows.clockRunsSpec) :=
  OpenClaim.holds_of_wide 9 Try.f9 rfl rfl rfl rfl rfl rfl rfl ⟨rfl, rfl, rfl, rfl, rfl⟩ rfl rfl rfl rfl rfl (by kernel_rfl) Try.func9 (by kernel_rfl)
    (of_decide_eq_true (by kernel_rfl)) (by unfold Func.isWrapper; first | (rw [if_pos (by decide +kernel)]; kernel_rfl) | (rw [if_neg (by decide +kernel)]; exact ⟨rfl, rfl⟩))
    (fun os started H enc _ => lifted os started H enc)

theorem proved : Rows.ClockRunsSaid := over
#print axioms proved
end Go.Proofs.Ytlpicadfldbifaa.clockRuns
