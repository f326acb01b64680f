/-
  For every input ClockRises returns true, and each argument reads behind the call as it read before. No conditions.
-/
import Derived.Test.YtlpicadfldbifaaRows
import Derived.Test.YtlpicadfldbifaaG3
import Derived.Test.YtlpicadfldbifaaG5
import Derived.Test.YtlpicadfldbifaaG6
import Derived.Test.YtlpicadfldbifaaG7
import Derived.Test.YtlpicadfldbifaaC5
namespace Go.Proofs.Ytlpicadfldbifaa.clockRises
open Go.ChangeShapes Go.WideShapes Go.ChangeAt Go.RowKit
open Go.ChangeMaps (open_string)

set_option linter.unusedVariables false
/-- The clock as the law has it: behind m accesses, the last of which began at 'last'. -/
def Run (w : World) (g : Nat) (last m : Int) : Prop :=
  ∃ (now cyc : Int) (f a nx : Bool), Blk w g 85 (ck now cyc f a nx) ∧ 0 ≤ now ∧ now ≤ 24 * m ∧ m ≤ cyc ∧ cyc ≤ 2 * m ∧ 0 ≤ m ∧ (a = false → nx = false) ∧ (m = 0 ∨ now - last = 3 ∨ now - last = 6 ∨ now - last = 12 ∨ now - last = 24)
theorem lenI_four (f x : Bool) (now : Int) : now + lenI f x - now = 3 ∨ now + lenI f x - now = 6 ∨ now + lenI f x - now = 12 ∨ now + lenI f x - now = 24 := by
  cases f <;> cases x <;> simp [lenI] <;> omega
set_option maxRecDepth 100000 in
set_option maxHeartbeats 8000000 in
theorem walk {W : World} (A : Option Addr) (n c : Nat) (z : Nat → Int) (hnc : n ≤ c) (hc : c ≤ maxLen) (R : IRow W .u8 A n z) :
    Calls Try.prog 11 #[.slice A n c] W fun e w' => e = .returned (.bool true) ∧ Below W.heap.size W w' := by
  unfold maxLen at hc
  by_cases b1 : 300 < n
  · have b1' : (300 : Int) < n := by omega
    go_enter Try.func11, Try.ntmps11
    go_wp2_with (go_at_call 36; refine (liveC_any _).mono ?_; rintro e wl ⟨rfl, hbl⟩)
    go_ret
    exact ⟨rfl, hbl⟩
  have b1' : ¬ (300 : Int) < n := by omega
  go_enter Try.func11, Try.ntmps11
  go_wp2_with (go_at_call 36; refine (liveC_any _).mono ?_; rintro e wl ⟨rfl, hbl⟩)
  have z0 := hbl.size
  refine (new_any _).mono ?_
  rintro e w1 ⟨rfl, hg1, q1⟩
  have z1 := q1.size
  have l1 := hg1.lt
  have hB1 := hbl.trans (q1.mono z0)
  generalize wl.heap.size = g at *
  clear q1 hbl
  go_wp2_with fail
  go_loopw [4, 5, 6] (fun last m i wr => ∃ k : Nat, k ≤ n ∧ i = .int .i64 k ∧ ∃ la mm : Int, last = .int .i64 la ∧ m = .int .i64 mm ∧ mm ≤ k ∧ Run wr g la mm ∧ Below W.heap.size W wr ∧ g < wr.heap.size) (fun _ _ i _ => n - (intOf i).toNat)
  case atStart => exact ⟨0, by omega, rfl, -24, 0, rfl, rfl, by omega, ⟨0, 0, false, false, false, hg1, by omega, by omega, by omega, by omega, by omega, fun _ => rfl, Or.inl rfl⟩, hB1, l1⟩
  case round =>
    obtain ⟨k, hk, rfl, la, m, rfl, rfl, hmk, ⟨now, cyc, f, a, nx, HG, n0, n1, k0, k1, m0, ha, hd⟩, hB, lr⟩ := hrel
    have zB := hB.size
    by_cases hlt : k < n
    · obtain ⟨ad, rfl, hl, hc1, hw⟩ := R k hlt
      have bz := bounds_u8 hw
      have hcell := (hB.cell (p := ad.add k) (by rw [block_of_add]; exact hl)).trans hc1
      clear hc1 hw
      have five : z k % 5 = 0 ∨ z k % 5 = 1 ∨ z k % 5 = 2 ∨ z k % 5 = 3 ∨ z k % 5 = 4 := by omega
      rcases five with e5 | e5 | e5 | e5 | e5
      · have HD := Lib.hid hd
        clear hd
        have HA := Lib.hid ha
        clear ha
        go_wp2_with fail
        refine (cycle_any false HG (by omega) (by omega) (by omega) (by omega)).mono ?_
        rintro e w3 ⟨rfl, hg3, q3⟩
        have z3 := q3.size
        have hB3 := below_gb hB q3 (by omega) (by omega)
        have lb := lenI_bd f false
        have ob := oneI_bd false
        have l4 := Lib.hid (lenI_four f false now)
        by_cases hm : m = 0
        · subst hm
          clear HD
          go_wp2_with (go_at_call 39; refine (now_any hg3).mono ?_; rintro e w4 ⟨rfl, rfl⟩)
          all_goals
            go_roundw
            case rel => exact ⟨k + 1, by omega, by go_num, now, 1, rfl, rfl, by omega, ⟨now + lenI f false, cyc + (1 + oneI false), f, a, nx, hg3, by omega, by omega, by omega, by omega, by omega, HA.out, Or.inr l4.out⟩, hB3, by omega⟩
            case measure => simp [intOf]; omega
        · have hm' : 0 < m := by omega
          have hd : now - la = 3 ∨ now - la = 6 ∨ now - la = 12 ∨ now - la = 24 := HD.out.resolve_left hm
          clear HD hm
          rcases hd with e0 | e0 | e0 | e0
          all_goals
            go_wp2_with (go_at_call 39; refine (now_any hg3).mono ?_; rintro e w4 ⟨rfl, rfl⟩)
            go_roundw
            case rel => exact ⟨k + 1, by omega, by go_num, now, m + 1, rfl, rfl, by omega, ⟨now + lenI f false, cyc + (1 + oneI false), f, a, nx, hg3, by omega, by omega, by omega, by omega, by omega, HA.out, Or.inr l4.out⟩, hB3, by omega⟩
            case measure => simp [intOf]; omega
      · have HD := Lib.hid hd
        clear hd
        have HA := Lib.hid ha
        clear ha
        go_wp2_with fail
        refine (cycle_any true HG (by omega) (by omega) (by omega) (by omega)).mono ?_
        rintro e w3 ⟨rfl, hg3, q3⟩
        have z3 := q3.size
        have hB3 := below_gb hB q3 (by omega) (by omega)
        have lb := lenI_bd f true
        have ob := oneI_bd true
        have l4 := Lib.hid (lenI_four f true now)
        by_cases hm : m = 0
        · subst hm
          clear HD
          go_wp2_with (go_at_call 39; refine (now_any hg3).mono ?_; rintro e w4 ⟨rfl, rfl⟩)
          all_goals
            go_roundw
            case rel => exact ⟨k + 1, by omega, by go_num, now, 1, rfl, rfl, by omega, ⟨now + lenI f true, cyc + (1 + oneI true), f, a, nx, hg3, by omega, by omega, by omega, by omega, by omega, HA.out, Or.inr l4.out⟩, hB3, by omega⟩
            case measure => simp [intOf]; omega
        · have hm' : 0 < m := by omega
          have hd : now - la = 3 ∨ now - la = 6 ∨ now - la = 12 ∨ now - la = 24 := HD.out.resolve_left hm
          clear HD hm
          rcases hd with e0 | e0 | e0 | e0
          all_goals
            go_wp2_with (go_at_call 39; refine (now_any hg3).mono ?_; rintro e w4 ⟨rfl, rfl⟩)
            go_roundw
            case rel => exact ⟨k + 1, by omega, by go_num, now, m + 1, rfl, rfl, by omega, ⟨now + lenI f true, cyc + (1 + oneI true), f, a, nx, hg3, by omega, by omega, by omega, by omega, by omega, HA.out, Or.inr l4.out⟩, hB3, by omega⟩
            case measure => simp [intOf]; omega
      · have HD := Lib.hid hd
        clear hd ha
        go_wp2_with fail
        refine (ask_any true HG).mono ?_
        rintro e w3 ⟨rfl, hg3, q3⟩
        have z3 := q3.size
        have hB3 := below_gb hB q3 (by omega) (by omega)
        go_wp2_with fail
        go_roundw
        case rel => exact ⟨k + 1, by omega, by go_num, la, m, rfl, rfl, by omega, ⟨now, cyc, f, true, true, hg3, n0, n1, k0, k1, m0, (fun e => by cases e), HD.out⟩, hB3, by omega⟩
        case measure => simp [intOf]; omega
      · have HD := Lib.hid hd
        clear hd ha
        go_wp2_with fail
        refine (ask_any false HG).mono ?_
        rintro e w3 ⟨rfl, hg3, q3⟩
        have z3 := q3.size
        have hB3 := below_gb hB q3 (by omega) (by omega)
        go_wp2_with fail
        go_roundw
        case rel => exact ⟨k + 1, by omega, by go_num, la, m, rfl, rfl, by omega, ⟨now, cyc, f, true, false, hg3, n0, n1, k0, k1, m0, (fun e => by cases e), HD.out⟩, hB3, by omega⟩
        case measure => simp [intOf]; omega
      · have HD := Lib.hid hd
        clear hd
        cases a
        · obtain rfl : nx = false := ha rfl
          clear ha
          go_wp2_with fail
          refine (turn_no HG).mono ?_
          rintro e w3 ⟨rfl, hg3, q3⟩
          have z3 := q3.size
          have hB3 := below_gb hB q3 (by omega) (by omega)
          go_wp2_with fail
          go_roundw
          case rel => exact ⟨k + 1, by omega, by go_num, la, m, rfl, rfl, by omega, ⟨now, cyc, f, false, false, hg3, n0, n1, k0, k1, m0, (fun _ => rfl), HD.out⟩, hB3, by omega⟩
          case measure => simp [intOf]; omega
        · clear ha
          go_wp2_with fail
          refine (turn_yes HG).mono ?_
          rintro e w3 ⟨rfl, hg3, q3⟩
          have z3 := q3.size
          have hB3 := below_gb hB q3 (by omega) (by omega)
          go_wp2_with fail
          go_roundw
          case rel => exact ⟨k + 1, by omega, by go_num, la, m, rfl, rfl, by omega, ⟨now, cyc, nx, false, false, hg3, n0, n1, k0, k1, m0, (fun _ => rfl), HD.out⟩, hB3, by omega⟩
          case measure => simp [intOf]; omega
    · obtain rfl : k = n := by omega
      clear hd ha
      go_wp2_with (first | (go_at_call 39; refine (now_any HG).mono ?_; rintro e w4 ⟨rfl, rfl⟩) | (go_at_call 41; refine (cycles_any HG).mono ?_; rintro e w4 ⟨rfl, rfl⟩))
      go_ret
      exact ⟨rfl, hB⟩

theorem own : ownKnob Try.prog.godebug = none := by kernel_rfl
theorem laidOut : laidOutB Try.prog = true := by kernel_rfl
set_option maxRecDepth 100000 in
theorem lifted (os : Os) (started : os.Started) (H : Type) (enc : TypeId × Value → H) :
    ReturnsInHanded {} Try.checked os 11 .any (Rows.clockRisesSpec.pre6 enc Try.prog Try.f11 Rows.clockRisesRow.domain false) (Rows.clockRisesSpec.post enc Try.prog Try.f11 false true false false) := by
  refine returnsInHanded_of_change (C := Try.checked) own started (by kernel_rfl) Try.func11
    (ChangeSpec.witness6 (enc := enc) (C := Try.checked) false ⟨#[], #[.slice none 0 0], []⟩ 8 (by kernel_rfl) (by kernel_rfl) (by kernel_rfl) (by kernel_rfl)) ?_
  intro W base args ds gs before hval0 hW _ _
  have hval : ∀ (j : Nat) t v, Try.f11.params[j]? = some t → args[j]? = some v → Value.okWide Try.prog W .any base t v := hval0
  have hW' := hW
  obtain ⟨p, q, hA0, hV, rfl, _, _⟩ := hW
  have hA : DataW.TrodAll enc Try.prog W 0 (fun _ => true) true Try.f11.params.toList args.toList ds p := hA0
  rw [Try.params11] at hA hval
  obtain ⟨v0, vs0, d0, ds0, p0, q0, hargs, rfl, rfl, h0, r0⟩ := trodAll_cons hA
  obtain ⟨rfl, rfl, rfl⟩ := trodAll_nil r0
  obtain rfl : args = #[v0] := by cases args; simp_all
  obtain ⟨rfl, rfl⟩ := trodVars_none hV
  obtain ⟨A0, n0, c0, z0, rfl, g0, m0, R0⟩ := slice_ints Try.underlying46 Try.underlying55 (by kernel_rfl) (hval 0 46 v0 rfl rfl) h0
  clear hA0 hval0
  refine (walk A0 n0 c0 z0 g0 m0 R0).mono fun e W' ⟨he, hg⟩ => ?_
  subst he
  exact ⟨_, rfl, law_post rfl Try.underlying4 laidOut (by kernel_rfl) rfl hW' rfl hg⟩

theorem over : Rows.clockRisesRow.holds Try.pinned (OpenSpec.ofChange Rows.clockRisesSpec) :=
  OpenClaim.holds_of_wide 11 Try.f11 rfl rfl rfl rfl rfl rfl rfl ⟨rfl, rfl, rfl, rfl, rfl⟩ rfl rfl rfl rfl rfl (by kernel_rfl) Try.func11 (by kernel_rfl)
    (of_decide_eq_true (by kernel_rfl)) (by unfold Func.isWrapper; first | (rw [if_pos (by decide +kernel)]; kernel_rfl) | (rw [if_neg (by decide +kernel)]; exact ⟨rfl, rfl⟩))
    (fun os started H enc _ => lifted os started H enc)

theorem proved : Rows.ClockRisesSaid := over
#print axioms proved
end Go.Proofs.Ytlpicadfldbifaa.clockRises
