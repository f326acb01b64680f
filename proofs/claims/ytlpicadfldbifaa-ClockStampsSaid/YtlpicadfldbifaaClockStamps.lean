/-
  For every input ClockStamps returns true, and each argument reads behind the call as it read before. No conditions.
-/
import Derived.Test.YtlpicadfldbifaaRows
import Derived.Test.YtlpicadfldbifaaG3
import Derived.Test.YtlpicadfldbifaaG5
import Derived.Test.YtlpicadfldbifaaG6
import Derived.Test.YtlpicadfldbifaaG7
import Derived.Test.YtlpicadfldbifaaC5
namespace Go.Proofs.Ytlpicadfldbifaa.clockStamps
open Go.ChangeShapes Go.WideShapes Go.ChangeAt Go.RowKit
open Go.ChangeMaps (open_string)

set_option linter.unusedVariables false
theorem ne_same (n : Int) : (n != n) = false := by simp
set_option maxHeartbeats 4000000 in
theorem walk {W : World} (s : Int) (ws : (Lit.int .i64 s).wf = true) (f : Bool) (A : Option Addr) (n c : Nat) (z : Nat → Bool) (hnc : n ≤ c) (hc : c ≤ maxLen) (R : BRow W A n z) :
    Calls Try.prog 10 #[.int .i64 s, .bool f, .slice A n c] W fun e w' => e = .returned (.bool true) ∧ Below W.heap.size W w' := by
  unfold maxLen at hc
  clear ws
  have hs := heldI_bd s
  by_cases b1 : 300 < n
  · have b1' : (300 : Int) < n := by omega
    go_enter Try.func10, Try.ntmps10
    go_wp2_with (go_at_call 36; refine (liveC_any _).mono ?_; rintro e wl ⟨rfl, hbl⟩)
    go_ret
    exact ⟨rfl, hbl⟩
  have b1' : ¬ (300 : Int) < n := by omega
  have NS := ne_same n
  go_enter Try.func10, Try.ntmps10
  go_wp2_with (go_at_call 36; refine (liveC_any _).mono ?_; rintro e wl ⟨rfl, hbl⟩)
  have z0 := hbl.size
  refine (stamps_any s f (R.keep hbl) (by omega)).mono ?_
  rintro e w1 ⟨o, rfl, ho, I1, q1⟩
  have z1 := q1.size
  have R1 := (R.keep hbl).keep q1
  have st0 := hs.1
  generalize hst : stampAt (heldI s) f z = st at *
  have HST := Lib.hid hst
  clear hst
  go_wp2_with fail
  refine (rat_new _ _ _).mono ?_
  rintro e w2 ⟨rfl, hr2, q2⟩
  have z2 := q2.size
  have l2 := hr2.lt
  have hB2 := (hbl.trans (q1.mono z0)).trans (q2.mono (by omega))
  generalize hrr : w1.heap.size = r at *
  have HRR := Lib.hid hrr
  have hB1 := hbl.trans (q1.mono z0)
  clear hbl q1 hrr
  go_wp2_with fail
  go_loopw [10] (fun i wr => ∃ k : Nat, k ≤ n ∧ i = .int .i64 k ∧ ∃ cyc : Int, Blk wr r 53 (rk (st k) cyc f false false) ∧ 0 ≤ cyc ∧ cyc ≤ 2 * k ∧ Below r w1 wr) (fun i _ => n - (intOf i).toNat)
  case atStart => exact ⟨0, by omega, rfl, 0, by rw [← HST.out]; exact hr2, by omega, by omega, q2⟩
  case round =>
    obtain ⟨k, hk, rfl, cyc, hr, k0, k1, hB⟩ := hrel
    have zB := hB.size
    have l3 := hr.lt
    by_cases hlt : k < n
    · obtain ⟨ad, rfl, hl, hc1⟩ := R1 k hlt
      obtain ⟨ae, he, hl2, hc2, _⟩ := I1 k hlt
      obtain rfl : ⟨o, 0, none⟩ = ae := by injection he
      rw [add_zero_block] at hc2
      have hl' : ad.block < r := by rw [← HRR.out]; exact hl
      have hl2' : o < r := by rw [← HRR.out]; exact hl2
      have d1 := (hB.cell (p := ad.add k) (by rw [block_of_add]; exact hl')).trans hc1
      have d2 := (hB.cell (p := ⟨o, k, none⟩) hl2').trans hc2
      have n1 : some (ad.add k).block ≠ some r := by rw [block_of_add]; intro e; injection e; omega
      have n2 : some o ≠ some r := by intro e; injection e; omega
      have N1 := Lib.hid n1
      have N2 := Lib.hid n2
      have sb := stampAt_bd (heldI s) f z k
      rw [HST.out] at sb
      obtain ⟨c0, c1, c2, c3, c4, hf⟩ := rk_cells hr
      have hst1 : Hid (st (k + 1) = st k + lenI f (z k)) := by show _ = _; rw [← HST.out]; rfl
      have ob := oneI_bd (z k)
      have NE := ne_same (st k)
      have HR := Lib.hid hr
      clear hc1 hc2 he hl hl2 n1 n2 hr c0 c1 c2 c3 c4 hf
      go_wp2_with fail
      go_region_with (go_at_call 46; refine (rcycle_any (w := _) _ (by exact HR.out) (by omega) (by omega) (by omega) (by omega)).mono ?_; rintro e w3 ⟨rfl, hr3, q3⟩; have d3 := gb_cell q3 rfl d1 N1.out; have d4 := gb_cell q3 rfl d2 N2.out; have z3 := q3.size; have hB3 : Below r w1 w3 := gb_from hB q3 rfl rfl rfl rfl (Nat.le_of_lt l3) (Nat.le_refl _))
      all_goals
        go_wp2_with fail
        go_roundw
        case rel => exact ⟨k + 1, by omega, by go_num, _, by rw [hst1.out]; exact hr3, by omega, by omega, hB3⟩
        case measure => simp [intOf]; omega
    · obtain rfl : k = n := by omega
      obtain ⟨c0, c1, c2, c3, c4, hf⟩ := rk_cells hr
      have hBf : Below W.heap.size W wr := (hB1).trans (hB.mono (by have := HRR.out; omega))
      go_wp2_with fail
      go_ret
      exact ⟨rfl, hBf⟩

theorem own : ownKnob Try.prog.godebug = none := by kernel_rfl
theorem laidOut : laidOutB Try.prog = true := by kernel_rfl
set_option maxRecDepth 100000 in
theorem lifted (os : Os) (started : os.Started) (H : Type) (enc : TypeId × Value → H) :
    ReturnsInHanded {} Try.checked os 10 .any (Rows.clockStampsSpec.pre6 enc Try.prog Try.f10 Rows.clockStampsRow.domain false) (Rows.clockStampsSpec.post enc Try.prog Try.f10 false true false false) := by
  refine returnsInHanded_of_change (C := Try.checked) own started (by kernel_rfl) Try.func10
    (ChangeSpec.witness6 (enc := enc) (C := Try.checked) false ⟨#[], #[.int .i64 0, .bool false, .slice none 0 0], []⟩ 8 (by kernel_rfl) (by kernel_rfl) (by kernel_rfl) (by kernel_rfl)) ?_
  intro W base args ds gs before hval0 hW _ _
  have hval : ∀ (j : Nat) t v, Try.f10.params[j]? = some t → args[j]? = some v → Value.okWide Try.prog W .any base t v := hval0
  have hW' := hW
  obtain ⟨p, q, hA0, hV, rfl, _, _⟩ := hW
  have hA : DataW.TrodAll enc Try.prog W 0 (fun _ => true) true Try.f10.params.toList args.toList ds p := hA0
  rw [Try.params10] at hA hval
  obtain ⟨v0, vs0, d0, ds0, p0, q0, hargs, rfl, rfl, h0, r0⟩ := trodAll_cons hA
  obtain ⟨v1, vs1, d1, ds1, p1, q1, rfl, rfl, rfl, h1, r1⟩ := trodAll_cons r0
  obtain ⟨v2, vs2, d2, ds2, p2, q2, rfl, rfl, rfl, h2, r2⟩ := trodAll_cons r1
  obtain ⟨rfl, rfl, rfl⟩ := trodAll_nil r2
  obtain rfl : args = #[v0, v1, v2] := by cases args; simp_all
  obtain ⟨rfl, rfl⟩ := trodVars_none hV
  obtain ⟨a0, rfl, rfl, rfl, w0⟩ := open_int Try.underlying2 (hval 0 2 v0 rfl rfl) h0
  obtain ⟨a1, rfl, rfl, rfl⟩ := open_bool Try.underlying4 (hval 1 4 v1 rfl rfl) h1
  obtain ⟨A2, n2, c2, z2, rfl, g2, m2, R2⟩ := slice_bools Try.underlying59 Try.underlying4 (by kernel_rfl) (hval 2 59 v2 rfl rfl) h2
  clear hA0 hval0
  refine (walk a0 w0 a1 A2 n2 c2 z2 g2 m2 R2).mono fun e W' ⟨he, hg⟩ => ?_
  subst he
  exact ⟨_, rfl, law_post rfl Try.underlying4 laidOut (by kernel_rfl) rfl hW' rfl hg⟩

theorem over : Rows.clockStampsRow.holds Try.pinned (OpenSpec.ofChange Rows.clockStampsSpec) :=
  OpenClaim.holds_of_wide 10 Try.f10 rfl rfl rfl rfl rfl rfl rfl ⟨rfl, rfl, rfl, rfl, rfl⟩ rfl rfl rfl rfl rfl (by kernel_rfl) Try.func10 (by kernel_rfl)
    (of_decide_eq_true (by kernel_rfl)) (by unfold Func.isWrapper; first | (rw [if_pos (by decide +kernel)]; kernel_rfl) | (rw [if_neg (by decide +kernel)]; exact ⟨rfl, rfl⟩))
    (fun os started H enc _ => lifted os started H enc)

theorem proved : Rows.ClockStampsSaid := over
#print axioms proved
end Go.Proofs.Ytlpicadfldbifaa.clockStamps
