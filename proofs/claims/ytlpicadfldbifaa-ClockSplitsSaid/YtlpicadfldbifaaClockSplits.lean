/-
  For every input ClockSplits returns true, and each argument reads behind the call as it read before. No conditions.
-/
import Derived.Test.YtlpicadfldbifaaRows
import Derived.Test.YtlpicadfldbifaaG3
import Derived.Test.YtlpicadfldbifaaG5
import Derived.Test.YtlpicadfldbifaaG6
import Derived.Test.YtlpicadfldbifaaG7
import Derived.Test.YtlpicadfldbifaaC5
namespace Go.Proofs.Ytlpicadfldbifaa.clockSplits
open Go.ChangeShapes Go.WideShapes Go.ChangeAt Go.RowKit
open Go.ChangeMaps (open_string)

set_option linter.unusedVariables false
def cat (n : Nat) (z z2 : Nat → Bool) (i : Nat) : Bool := if i < n then z i else z2 (i - n)
theorem cat_lo (s : Int) (f : Bool) (n : Nat) (z z2 : Nat → Bool) (i : Nat) (h : i ≤ n) : stampAt s f (cat n z z2) i = stampAt s f z i := by
  induction i with
  | zero => rfl
  | succ i ih => simp only [stampAt]; rw [ih (by omega), cat, if_pos (by omega)]
theorem cat_hi (s : Int) (f : Bool) (n : Nat) (z z2 : Nat → Bool) (i : Nat) : stampAt s f (cat n z z2) (n + i) = stampAt (stampAt s f z n) f z2 i := by
  induction i with
  | zero => exact cat_lo s f n z z2 n (Nat.le_refl _)
  | succ i ih => rw [← Nat.add_assoc]; simp only [stampAt]; rw [ih, cat, if_neg (by omega), Nat.add_sub_cancel_left]
theorem cell_heap {w w' : World} (h : w'.heap = w.heap) (a : Addr) : w'.cell? a = w.cell? a := World.cell?_of_block (by rw [h])
theorem heldI_in (s : Int) (h0 : 0 ≤ s) (h1 : s ≤ 1125899906842624) : heldI s = s := by unfold heldI; rw [if_neg (by omega), if_neg (by omega)]
theorem ne_same (n : Int) : (n != n) = false := by simp
set_option maxRecDepth 100000 in
set_option maxHeartbeats 8000000 in
theorem walk {W : World} (s : Int) (ws : (Lit.int .u32 s).wf = true) (f : Bool) (A : Option Addr) (n c : Nat) (z : Nat → Bool) (hnc : n ≤ c) (hc : c ≤ maxLen) (R : BRow W A n z) (A2 : Option Addr) (n2 c2 : Nat) (z2 : Nat → Bool) (hnc2 : n2 ≤ c2) (hc2 : c2 ≤ maxLen) (R2 : BRow W A2 n2 z2) :
    Calls Try.prog 12 #[.int .u32 s, .bool f, .slice A n c, .slice A2 n2 c2] W fun e w' => e = .returned (.bool true) ∧ Below W.heap.size W w' := by
  have bs := bounds_u32 ws
  unfold maxLen at hc hc2
  clear ws
  by_cases b1 : 200 < n
  · have b1' : (200 : Int) < n := by omega
    go_enter Try.func12, Try.ntmps12
    go_wp2_with (go_at_call 36; refine (liveC_any _).mono ?_; rintro e wl ⟨rfl, hbl⟩)
    go_ret
    exact ⟨rfl, hbl⟩
  by_cases b2 : 200 < n2
  · have b2' : (200 : Int) < n2 := by omega
    have b1' : ¬ (200 : Int) < n := by omega
    go_enter Try.func12, Try.ntmps12
    go_wp2_with (go_at_call 36; refine (liveC_any _).mono ?_; rintro e wl ⟨rfl, hbl⟩)
    go_ret
    exact ⟨rfl, hbl⟩
  have b1' : ¬ (200 : Int) < n := by omega
  have b2' : ¬ (200 : Int) < n2 := by omega
  have hh1 := heldI_in s bs.1 (by omega)
  have sb := stampAt_bd s f z n
  have hh2 := heldI_in (stampAt s f z n) (by omega) (by omega)
  have CL := Lib.hid (fun i h => cat_lo s f n z z2 i h)
  have CH := Lib.hid (fun i => cat_hi s f n z z2 i)
  have H1 := Lib.hid hh1
  have H2 := Lib.hid hh2
  clear hh1 hh2
  go_enter Try.func12, Try.ntmps12
  go_wp2_with fail
  refine (liveC_any _).mono ?_
  rintro e wl ⟨rfl, hbl⟩
  have z0 := hbl.size
  obtain ⟨v1, wa, A3, c3, wb, r1, r2, R3, q0⟩ := cat_bools (P := Try.prog) (t := 59) (e := 4) (ty := 59) (c := c) (c2 := c2) wl Try.underlying59 (by kernel_rfl) (R.keep hbl) (R2.keep hbl) (by omega)
  have zq := q0.size
  go_wp2_with (first | (at_builtin; refine wpList_append_run rfl (.tmp 30) (.tmp 31) 59 rfl rfl rfl r1 ?_) | (at_builtin; refine wpList_append_run rfl (.tmp 32) (.tmp 33) 59 rfl rfl rfl r2 ?_))
  refine (stamps_any (z := cat n z z2) s f R3 (by omega)).mono ?_
  rw [H1.out]
  rintro e w1 ⟨o1, rfl, ho1, I1, q1⟩
  have z1 := q1.size
  clear r1 r2 R3
  have hBa := (hbl.trans (q0.mono z0)).trans (q1.mono (by omega))
  have Ra := R.keep hBa
  have R2a := R2.keep hBa
  clear hbl q0 q1
  go_wp2_with fail
  refine (stamps_any (z := z) s f Ra (by omega)).mono ?_
  rw [H1.out]
  rintro e w2 ⟨o2, rfl, ho2, I2, q2⟩
  have z2' := q2.size
  have I1b := I1.keep q2
  have R2b := R2a.keep q2
  have hBb := hBa.trans (q2.mono hBa.size)
  clear I1 R2a Ra q2
  go_wp2_with fail
  refine (stamps_any (z := z2) (stampAt s f z n) f R2b (by omega)).mono ?_
  rw [H2.out]
  rintro e w3 ⟨o3, rfl, ho3, I3, q3⟩
  have I1c := I1b.keep q3
  have I2c := I2.keep q3
  have hBc := hBb.trans (q3.mono hBb.size)
  have e1 : (n + n2 : Nat) = n + n2 := rfl
  have t1 : (((n + n2 : Nat) : Int) != (n : Int) + n2) = false := by simp
  have t2 : stampAt s f (cat n z z2) (n + n2) = stampAt (stampAt s f z n) f z2 n2 := CH.out n2
  generalize hE : stampAt (stampAt s f z n) f z2 n2 = E at *
  have HE := Lib.hid hE
  clear I1b I2 R2b q3 e1 hE
  go_wp2_with fail
  go_loopw [15] (fun i wr => ∃ k : Nat, k ≤ n + n2 ∧ i = .int .i64 k ∧ wr.heap = w3.heap ∧ Below W.heap.size W wr) (fun i _ => n + n2 - (intOf i).toNat)
  case atStart => exact ⟨0, by omega, rfl, rfl, hBc⟩
  case round =>
    obtain ⟨k, hk, rfl, hh, hB⟩ := hrel
    have HH := Lib.hid hh
    clear hh
    by_cases hlt : k < n + n2
    · obtain ⟨a1, h1, _, x1, _⟩ := I1c k hlt
      obtain rfl : ⟨o1, 0, none⟩ = a1 := by injection h1
      rw [add_zero_block] at x1
      have x1' := (cell_heap HH.out ⟨o1, k, none⟩).trans x1
      by_cases hkn : k < n
      · obtain ⟨a2, h2, _, x2, _⟩ := I2c k hkn
        obtain rfl : ⟨o2, 0, none⟩ = a2 := by injection h2
        rw [add_zero_block] at x2
        have x2' := (cell_heap HH.out ⟨o2, k, none⟩).trans x2
        rw [CL.out k (by omega)] at x1'
        clear x1 x2 h1 h2
        have d1 : decide (k < n) = true := by simpa using hkn
        have d2 : decide (n ≤ k) = false := by simp; omega
        have NS := ne_same (stampAt s f z k)
        generalize stampAt s f z k = V at *
        go_wp2_with fail
        go_quiet (fail)
        go_wp2_with fail
        go_roundw
        case rel => exact ⟨k + 1, by omega, by go_num, HH.out, below_drewN hB _⟩
        case measure => simp [intOf]; omega
      · obtain ⟨a2, h2, _, x2, _⟩ := I3 (k - n) (by omega)
        obtain rfl : ⟨o3, 0, none⟩ = a2 := by injection h2
        rw [add_zero_block] at x2
        have x2' := (cell_heap HH.out ⟨o3, k - n, none⟩).trans x2
        have ch := CH.out (k - n)
        rw [show n + (k - n) = k by omega] at ch
        rw [ch] at x1'
        clear x1 x2 h1 h2 ch
        have d1 : decide (k < n) = false := by simpa using hkn
        have d2 : decide (n ≤ k) = true := by simp; omega
        have NS := ne_same (stampAt (stampAt s f z n) f z2 (k - n))
        generalize stampAt (stampAt s f z n) f z2 (k - n) = V at *
        have g1 : (0 : Int) ≤ k - n := by omega
        have g4 : (k : Int) - n < n2 := by omega
        have g3 : ((k : Int) - n).toNat = k - n := by omega
        have g2 : IntKind.i64.wrap ((k : Int) - n) = k - n := IntWalk.i64_in _ (by omega)
        go_wp2_with fail
        go_quiet (fail)
        clear g2 g3
        go_wp2_with fail
        go_roundw
        case rel => exact ⟨k + 1, by omega, by go_num, HH.out, below_drewN hB _⟩
        case measure => simp [intOf]; omega
    · obtain rfl : k = n + n2 := by omega
      go_wp2_with fail
      go_ret
      exact ⟨rfl, hB⟩

theorem own : ownKnob Try.prog.godebug = none := by kernel_rfl
theorem laidOut : laidOutB Try.prog = true := by kernel_rfl
set_option maxRecDepth 100000 in
theorem lifted (os : Os) (started : os.Started) (H : Type) (enc : TypeId × Value → H) :
    ReturnsInHanded {} Try.checked os 12 .any (Rows.clockSplitsSpec.pre6 enc Try.prog Try.f12 Rows.clockSplitsRow.domain false) (Rows.clockSplitsSpec.post enc Try.prog Try.f12 false true false false) := by
  refine returnsInHanded_of_change (C := Try.checked) own started (by kernel_rfl) Try.func12
    (ChangeSpec.witness6 (enc := enc) (C := Try.checked) false ⟨#[], #[.int .u32 0, .bool false, .slice none 0 0, .slice none 0 0], []⟩ 8 (by kernel_rfl) (by kernel_rfl) (by kernel_rfl) (by kernel_rfl)) ?_
  intro W base args ds gs before hval0 hW _ _
  have hval : ∀ (j : Nat) t v, Try.f12.params[j]? = some t → args[j]? = some v → Value.okWide Try.prog W .any base t v := hval0
  have hW' := hW
  obtain ⟨p, q, hA0, hV, rfl, _, _⟩ := hW
  have hA : DataW.TrodAll enc Try.prog W 0 (fun _ => true) true Try.f12.params.toList args.toList ds p := hA0
  rw [Try.params12] at hA hval
  obtain ⟨v0, vs0, d0, ds0, p0, q0, hargs, rfl, rfl, h0, r0⟩ := trodAll_cons hA
  obtain ⟨v1, vs1, d1, ds1, p1, q1, rfl, rfl, rfl, h1, r1⟩ := trodAll_cons r0
  obtain ⟨v2, vs2, d2, ds2, p2, q2, rfl, rfl, rfl, h2, r2⟩ := trodAll_cons r1
  obtain ⟨v3, vs3, d3, ds3, p3, q3, rfl, rfl, rfl, h3, r3⟩ := trodAll_cons r2
  obtain ⟨rfl, rfl, rfl⟩ := trodAll_nil r3
  obtain rfl : args = #[v0, v1, v2, v3] := by cases args; simp_all
  obtain ⟨rfl, rfl⟩ := trodVars_none hV
  obtain ⟨a0, rfl, rfl, rfl, w0⟩ := open_int Try.underlying41 (hval 0 41 v0 rfl rfl) h0
  obtain ⟨a1, rfl, rfl, rfl⟩ := open_bool Try.underlying4 (hval 1 4 v1 rfl rfl) h1
  obtain ⟨A2, n2, c2, z2, rfl, g2, m2, R2⟩ := slice_bools Try.underlying59 Try.underlying4 (by kernel_rfl) (hval 2 59 v2 rfl rfl) h2
  obtain ⟨A3, n3, c3, z3, rfl, g3, m3, R3⟩ := slice_bools Try.underlying59 Try.underlying4 (by kernel_rfl) (hval 3 59 v3 rfl rfl) h3
  clear hA0 hval0
  refine (walk a0 w0 a1 A2 n2 c2 z2 g2 m2 R2 A3 n3 c3 z3 g3 m3 R3).mono fun e W' ⟨he, hg⟩ => ?_
  subst he
  exact ⟨_, rfl, law_post rfl Try.underlying4 laidOut (by kernel_rfl) rfl hW' rfl hg⟩

theorem over : Rows.clockSplitsRow.holds Try.pinned (OpenSpec.ofChange Rows.clockSplitsSpec) :=
  OpenClaim.holds_of_wide 12 Try.f12 rfl rfl rfl rfl rfl rfl rfl ⟨rfl, rfl, rfl, rfl, rfl⟩ rfl rfl rfl rfl rfl (by kernel_rfl) Try.func12 (by kernel_rfl)
    (of_decide_eq_true (by kernel_rfl)) (by unfold Func.isWrapper; first | (rw [if_pos (by decide +kernel)]; kernel_rfl) | (rw [if_neg (by decide +kernel)]; exact ⟨rfl, rfl⟩))
    (fun os started H enc _ => lifted os started H enc)

theorem proved : Rows.ClockSplitsSaid := over
#print axioms proved
end Go.Proofs.Ytlpicadfldbifaa.clockSplits
