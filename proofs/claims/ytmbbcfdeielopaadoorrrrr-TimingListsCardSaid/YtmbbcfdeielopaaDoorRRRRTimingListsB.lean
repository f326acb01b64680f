/-
  For every input TimingLists returns true, and each argument reads behind the call as it read before. The one condition: when the call begins the package-level variables that the row lists hold what the program lays in them (TIED: the card shows it of the text of the project, pruned to the packages that this seat loads).
-/
import Derived.Test.YtmbbcfdeielopaaDoorRRRRRows
import Derived.Test.YtmbbcfdeielopaaDoorRRRRKTM01
import Derived.SevenTiedAt
import Derived.ProofKit
import Derived.LaidMore
import Derived.OpenShut
import Derived.Stop.Joined
import Derived.Test.YtmbbcfdeielopaaDoorRRRRCards
import Derived.Test.YtmbbcfdeielopaaDoorRRRRTie
import Derived.Test.YtmbbcfdeielopaaDoorRRRRKTM39
import Derived.Test.YtmbbcfdeielopaaDoorRRRRKTM10
import Derived.Test.YtmbbcfdeielopaaDoorRRRRKTM40
namespace Go.Proofs.YtmbbcfdeielopaaDoorRRRR.timingLists
open Go.ChangeShapes Go.WideShapes Go.ChangeAt Go.RowKit
open Go.ChangeMaps (open_string)

set_option linter.unusedVariables false
set_option linter.unusedSimpArgs false
set_option maxRecDepth 100000 in
set_option maxHeartbeats 8000000 in
theorem walk (b : Int) (wb : (Lit.int .u8 b).wf = true) (T D K : Bool) (n : Int) (wn : (Lit.int .i64 n).wf = true) (W : World) (hT : Tabs W) :
    Calls Tryd.prog 3 #[.int .u8 b, .agg (fcA T D K n)] W fun e w' => e = .returned (.bool true) ∧ Below W.heap.size W w' := by
  obtain ⟨b0, b1⟩ := bounds_u8 wb
  obtain ⟨b, rfl⟩ : ∃ m : Nat, b = m := ⟨b.toNat, by omega⟩
  have hb256 : b < 256 := by omega
  have hLs := fun W => tlist_own b hb256 T D K n W
  have hCt := fun W => tcount_any b hb256 T D K n W
  have hRo := fun W => rof_any b hb256 W
  unfold rV at hRo
  have hLet := fun (h : opM b = 19 → n ≤ 1000) W => rlet_any b hb256 T D K n h W
  obtain ⟨hok, hln⟩ := tmL_ok b hb256 T D K n
  have hKd := fun W => rkinds_own (tmL b T D K n) (by omega) hok W
  have hSm := fun (w : World) (A B : Option Addr) (c d : Nat) (h1 : IRow w .u8 A (tmL b T D K n).length (fun i => (kdL (tmL b T D K n)).getD i 0)) (h2 : IRow w .u8 B (tmL b T D K n).length (fun i => (kdL (tmL b T D K n)).getD i 0)) => same_own (w := w) (A := A) (B := B) (c := c) (d := d) (by omega) h1 h2
  have hbig : n = 65536 → opM b = 19 → (tmL b T D K n).length = 393233 := fun h h19 => by
    rw [tmL_len]
    have h2 : (tmA (opN b) (opM b) T D K).length = 11 ∧ (tmB (opM b)).length = 6 := by rw [h19]; exact ⟨rfl, rfl⟩
    have h3 : tmMv (opM b) n = 65536 := by unfold tmMv; rw [if_pos h19, h]; rfl
    omega
  generalize opM b = m at hRo hLet hbig
  generalize mkS (opN b) = S at hRo
  generalize opZ b = z at hRo
  generalize (opY b : Int) = y at hRo
  generalize opK b = k at hRo
  generalize tmL b T D K n = L at hLs hCt hLet hKd hSm hbig hln
  have hfl := fun (W : World) => (show (Instr.field 28 (.agg #[.string S, .int .u8 (m : Int), .int .i64 z, .int .i64 y, .bool k]) 1).run Tryd.prog W = .ok (.int .u8 (m : Int)) W by kernel_rfl)
  have HLET := Lib.hid hLet
  have HBIG := Lib.hid hbig
  have HKD := Lib.hid hKd
  clear wb wn hok hLet hbig hKd b0 b1 hb256
  have K0 : Hid (Blk (W.alloc (.cells (fcA T D K n) 23)) W.heap.size 23 (fcA T D K n)) := Lib.hid (Blk.new W _ _)
  have HB0 : Hid (Below W.heap.size W (W.alloc (.cells (fcA T D K n) 23))) := Lib.hid ((Below.refl _ W).alloc (Nat.le_refl _) _)
  have HF4 : Hid ((Tryd.prog.info? 23).map (·.size) = some (fcA T D K n).size) := Lib.hid (by kernel_rfl)
  obtain ⟨g, hg⟩ : ∃ g, W.heap.size = g := ⟨_, rfl⟩
  obtain ⟨W0, hw0⟩ : ∃ W0, W.alloc (.cells (fcA T D K n) 23) = W0 := ⟨_, rfl⟩
  rw [hw0] at K0 HB0
  rw [hg] at K0
  have HG := Lib.hid hg
  have HW0 := Lib.hid hw0
  clear hw0 hT
  by_cases h1 : n ≤ 1000
  · have g1 : ¬ (1000 : Int) < n := by omega
    have hR9 := HLET.out fun _ => h1
    go_enter Tryd.func3, Tryd.ntmps3
    go_upto_region 1 with fail
    rw [HW0.out]
    have hg0 : W.heap.size = g := HG.out
    clear hg
    (try rw [hg0])
    clear hg0
    go_wp2_with fail
    refine (live29_any _).mono ?_
    rintro e W1 ⟨rfl, hb⟩
    have K1 := Lib.hid (K0.out.below hb K0.out.lt)
    have HB1 := Lib.hid (HB0.out.trans (hb.mono HB0.out.size))
    clear hb K0 HB0
    have d0 : W1.cell? ⟨g, 0, none⟩ = some (.bool T) := K1.out.cell 0
    have d1 : W1.cell? ⟨g, 1, none⟩ = some (.bool D) := K1.out.cell 1
    have d2 : W1.cell? ⟨g, 2, none⟩ = some (.bool K) := K1.out.cell 2
    have d3 : W1.cell? ⟨g, 3, none⟩ = some (.int .i64 n) := K1.out.cell 3
    have kk := K1.out
    go_wp2_with (first | (refine wpList_load_row rfl 23 (.tmp 3) rfl g (by rfl) 23 (fcA T D K n) (0, 0) _ kk Tryd.underlying23 rfl HF4.out ?_) | (refine wpList_load_row_want (by rfl) 23 (.tmp 3) rfl g (by rfl) 23 (fcA T D K n) (0, 0) _ kk Tryd.underlying23 rfl HF4.out ?_))
    refine (hLs _).mono ?_
    rintro e W2 ⟨v, rfl, ⟨A, cap, rfl, R⟩, hb⟩
    have K2 := Lib.hid (K1.out.below hb K1.out.lt)
    have HB2 := Lib.hid (HB1.out.trans (hb.mono HB1.out.size))
    have HR2 := Lib.hid R
    clear hb R d0 d1 d2 d3 kk
    have d0 : W2.cell? ⟨g, 0, none⟩ = some (.bool T) := K2.out.cell 0
    have d1 : W2.cell? ⟨g, 1, none⟩ = some (.bool D) := K2.out.cell 1
    have d2 : W2.cell? ⟨g, 2, none⟩ = some (.bool K) := K2.out.cell 2
    have d3 : W2.cell? ⟨g, 3, none⟩ = some (.int .i64 n) := K2.out.cell 3
    have hKd := HKD.out
    go_wp2_with fail
    refine (hR9 _).mono ?_
    rintro e W3 ⟨rfl, hb⟩
    have K3 := Lib.hid (K2.out.below hb K2.out.lt)
    have HB3 := Lib.hid (HB2.out.trans (hb.mono HB2.out.size))
    have HR3 := Lib.hid (HR2.out.keep hb)
    clear hb d0 d1 d2 d3
    go_wp2_with fail
    refine (hKd _).mono ?_
    rintro e W4 ⟨v2, rfl, ⟨B, cap2, rfl, R2⟩, hb⟩
    have K4 := Lib.hid (K3.out.below hb K3.out.lt)
    have HB4 := Lib.hid (HB3.out.trans (hb.mono HB3.out.size))
    have HR4 := Lib.hid (HR3.out.keep hb)
    have HQ4 := Lib.hid R2
    clear hb R2
    go_wp2_with fail
    refine (hSm _ _ _ _ _ HR4.out HQ4.out).mono ?_
    rintro e W5 ⟨rfl, hb⟩
    have kk := K4.out.below hb K4.out.lt
    have HB5 := Lib.hid (HB4.out.trans (hb.mono HB4.out.size))
    clear hb
    go_wp2_with (first | (refine wpList_load_row rfl 23 (.tmp 3) rfl g (by rfl) 23 (fcA T D K n) (0, 0) _ kk Tryd.underlying23 rfl HF4.out ?_) | (refine wpList_load_row_want (by rfl) 23 (.tmp 3) rfl g (by rfl) 23 (fcA T D K n) (0, 0) _ kk Tryd.underlying23 rfl HF4.out ?_))
    refine (hCt _).mono ?_
    rintro e W6 ⟨rfl, hb⟩
    have HB6 := Lib.hid (HB5.out.trans (hb.mono HB5.out.size))
    clear hb
    go_wp2_with fail
    go_ret
    exact ⟨rfl, HB6.out⟩
  · have g1 : (1000 : Int) < n := by omega
    by_cases h2 : n = 65536
    · have g2 : ((n : Int) != 65536) = false := by simp [h2]
      have HN := Lib.hid h2
      clear h1 h2
      go_enter Tryd.func3, Tryd.ntmps3
      go_upto_region 1 with fail
      rw [HW0.out]
      have hg0 : W.heap.size = g := HG.out
      clear hg
      (try rw [hg0])
      clear hg0
      go_wp2_with fail
      refine (live29_any _).mono ?_
      rintro e W1 ⟨rfl, hb⟩
      have K1 := Lib.hid (K0.out.below hb K0.out.lt)
      have HB1 := Lib.hid (HB0.out.trans (hb.mono HB0.out.size))
      clear hb K0 HB0
      have d0 : W1.cell? ⟨g, 0, none⟩ = some (.bool T) := K1.out.cell 0
      have d1 : W1.cell? ⟨g, 1, none⟩ = some (.bool D) := K1.out.cell 1
      have d2 : W1.cell? ⟨g, 2, none⟩ = some (.bool K) := K1.out.cell 2
      have d3 : W1.cell? ⟨g, 3, none⟩ = some (.int .i64 n) := K1.out.cell 3
      have kk := K1.out
      go_wp2_with (first | (refine wpList_load_row rfl 23 (.tmp 3) rfl g (by rfl) 23 (fcA T D K n) (0, 0) _ kk Tryd.underlying23 rfl HF4.out ?_) | (refine wpList_load_row_want (by rfl) 23 (.tmp 3) rfl g (by rfl) 23 (fcA T D K n) (0, 0) _ kk Tryd.underlying23 rfl HF4.out ?_))
      refine (hLs _).mono ?_
      rintro e W2 ⟨v, rfl, ⟨A, cap, rfl, R⟩, hb⟩
      have K2 := Lib.hid (K1.out.below hb K1.out.lt)
      have HB2 := Lib.hid (HB1.out.trans (hb.mono HB1.out.size))
      have HR2 := Lib.hid R
      clear hb R d0 d1 d2 d3 kk
      have d0 : W2.cell? ⟨g, 0, none⟩ = some (.bool T) := K2.out.cell 0
      have d1 : W2.cell? ⟨g, 1, none⟩ = some (.bool D) := K2.out.cell 1
      have d2 : W2.cell? ⟨g, 2, none⟩ = some (.bool K) := K2.out.cell 2
      have d3 : W2.cell? ⟨g, 3, none⟩ = some (.int .i64 n) := K2.out.cell 3
      go_wp2_with fail
      refine (hRo _).mono ?_
      rintro e W3 ⟨rfl, hb⟩
      have K3 := Lib.hid (K2.out.below hb K2.out.lt)
      have HB3 := Lib.hid (HB2.out.trans (hb.mono HB2.out.size))
      have HR3 := Lib.hid (HR2.out.keep hb)
      clear hb d0 d1 d2 d3 K2 HB2 HR2
      have K2 := K3
      have HB2 := HB3
      have HR2 := HR3
      clear K3 HB3 HR3
      by_cases h19 : m = 19
      · have e19 : ((m : Int) == 19) = true := by simp; omega
        have hln2 := HBIG.out HN.out h19
        have el : ((L.length : Int) == 393233) = true := by simp [hln2]
        clear h19 hln2
        have kk := K2.out
        go_wp2_with (first | (refine wpList_load_row rfl 23 (.tmp 3) rfl g (by rfl) 23 (fcA T D K n) (0, 0) _ kk Tryd.underlying23 rfl HF4.out ?_) | (refine wpList_load_row_want (by rfl) 23 (.tmp 3) rfl g (by rfl) 23 (fcA T D K n) (0, 0) _ kk Tryd.underlying23 rfl HF4.out ?_))
        refine (hCt _).mono ?_
        rintro e W6 ⟨rfl, hb⟩
        have HB6 := Lib.hid (HB2.out.trans (hb.mono HB2.out.size))
        clear hb
        go_wp2_with fail
        go_ret
        exact ⟨rfl, HB6.out⟩
      · have e19 : ((m : Int) == 19) = false := by simp; omega
        have hR9 := HLET.out fun h => absurd h h19
        have hKd := HKD.out
        clear h19
        have d0 : W3.cell? ⟨g, 0, none⟩ = some (.bool T) := K2.out.cell 0
        have d1 : W3.cell? ⟨g, 1, none⟩ = some (.bool D) := K2.out.cell 1
        have d2 : W3.cell? ⟨g, 2, none⟩ = some (.bool K) := K2.out.cell 2
        have d3 : W3.cell? ⟨g, 3, none⟩ = some (.int .i64 n) := K2.out.cell 3
        go_wp2_with fail
        refine (hR9 _).mono ?_
        rintro e W3b ⟨rfl, hb⟩
        have K3 := Lib.hid (K2.out.below hb K2.out.lt)
        have HB3 := Lib.hid (HB2.out.trans (hb.mono HB2.out.size))
        have HR3 := Lib.hid (HR2.out.keep hb)
        clear hb d0 d1 d2 d3
        go_wp2_with fail
        refine (hKd _).mono ?_
        rintro e W4b ⟨v2, rfl, ⟨B, cap2, rfl, R2⟩, hb⟩
        have K4 := Lib.hid (K3.out.below hb K3.out.lt)
        have HB4 := Lib.hid (HB3.out.trans (hb.mono HB3.out.size))
        have HR4 := Lib.hid (HR3.out.keep hb)
        have HQ4 := Lib.hid R2
        clear hb R2
        go_wp2_with fail
        refine (hSm _ _ _ _ _ HR4.out HQ4.out).mono ?_
        rintro e W5 ⟨rfl, hb⟩
        have kk := K4.out.below hb K4.out.lt
        have HB5 := Lib.hid (HB4.out.trans (hb.mono HB4.out.size))
        clear hb
        go_wp2_with (first | (refine wpList_load_row rfl 23 (.tmp 3) rfl g (by rfl) 23 (fcA T D K n) (0, 0) _ kk Tryd.underlying23 rfl HF4.out ?_) | (refine wpList_load_row_want (by rfl) 23 (.tmp 3) rfl g (by rfl) 23 (fcA T D K n) (0, 0) _ kk Tryd.underlying23 rfl HF4.out ?_))
        refine (hCt _).mono ?_
        rintro e W6 ⟨rfl, hb⟩
        have HB6 := Lib.hid (HB5.out.trans (hb.mono HB5.out.size))
        clear hb
        go_wp2_with fail
        go_ret
        exact ⟨rfl, HB6.out⟩
    · have g2 : ((n : Int) != 65536) = true := by simpa using h2
      clear h1 h2
      go_enter Tryd.func3, Tryd.ntmps3
      go_upto_region 1 with fail
      rw [HW0.out]
      have hg0 : W.heap.size = g := HG.out
      clear hg
      (try rw [hg0])
      clear hg0
      go_wp2_with fail
      refine (live29_any _).mono ?_
      rintro e W1 ⟨rfl, hb⟩
      have K1 := Lib.hid (K0.out.below hb K0.out.lt)
      have HB1 := Lib.hid (HB0.out.trans (hb.mono HB0.out.size))
      clear hb K0 HB0
      have d0 : W1.cell? ⟨g, 0, none⟩ = some (.bool T) := K1.out.cell 0
      have d1 : W1.cell? ⟨g, 1, none⟩ = some (.bool D) := K1.out.cell 1
      have d2 : W1.cell? ⟨g, 2, none⟩ = some (.bool K) := K1.out.cell 2
      have d3 : W1.cell? ⟨g, 3, none⟩ = some (.int .i64 n) := K1.out.cell 3
      go_wp2_with fail
      go_ret
      exact ⟨rfl, HB1.out⟩

theorem own : ownKnob Tryd.prog.godebug = none := by kernel_rfl
theorem laidOut : laidOutB Tryd.prog = true := by kernel_rfl
set_option maxRecDepth 100000 in
theorem lifted (os : Os) (started : os.Started) (H : Type) (enc : TypeId × Value → H) :
    ReturnsInHanded {} Tryd.checked os 3 .any (fun w args => (Rows.timingListsSpec.pre enc Tryd.prog Tryd.f3 [] false w args ∧ laidMetH Tryd.prog laid2 w) ∧ sizedMet enc Tryd.prog Tryd.f3 (OpenSpec.ofChange Rows.timingListsSpec) false w args)
      (Rows.timingListsSpec.post enc Tryd.prog Tryd.f3 false true false false) := by
  refine returnsInHanded_of_change_and (C := Tryd.checked) (X := fun w _ => laidMetH Tryd.prog laid2 w) (fun _ _ _ hh h => h.of_heap hh) own started (by kernel_rfl) Tryd.func3
    (ChangeSpec.witness_shaped (enc := enc) (C := Tryd.checked) (os := os) (X := fun w _ => laidMetH Tryd.prog laid2 w) false (World.laidAll Tryd.prog os laid2) #[.int .u8 0, .agg #[.bool false, .bool false, .bool false, .int .i64 0]] 8 (World.laidAll_os _ _ _) (World.shaped_of_ZipB (by kernel_rfl) (by kernel_rfl)) (by kernel_rfl) (by kernel_rfl) (by kernel_rfl) (by rw [MakeChecks.laidMetH_plain _ _ _ (by kernel_rfl)]; exact laidMet_laidAll _ (by kernel_rfl) (by kernel_rfl))) ?_
  intro W base args ds gs before hval0 hW _ _ hL0 _
  have hL : laidMetH Tryd.prog laid2 W := hL0
  rw [MakeChecks.laidMetH_plain _ _ _ (by kernel_rfl)] at hL
  have HT := of_laid hL
  have hval : ∀ (j : Nat) t v, Tryd.f3.params[j]? = some t → args[j]? = some v → Value.okWide Tryd.prog W .any base t v := hval0
  have hW' := hW
  obtain ⟨p, q, hA0, hV, rfl, _, _⟩ := hW
  have hA : DataW.TrodAll enc Tryd.prog W 0 (fun _ => true) true Tryd.f3.params.toList args.toList ds p := hA0
  rw [Tryd.params3] at hA hval
  obtain ⟨v0, vs0, d0, ds0, p0, q0, hargs, rfl, rfl, h0, r0⟩ := trodAll_cons hA
  obtain ⟨v1, vs1, d1, ds1, p1, q1, rfl, rfl, rfl, h1, r1⟩ := trodAll_cons r0
  obtain ⟨rfl, rfl, rfl⟩ := trodAll_nil r1
  obtain rfl : args = #[v0, v1] := by cases args; simp_all
  obtain ⟨rfl, rfl⟩ := trodVars_none hV
  obtain ⟨a0, rfl, rfl, rfl, w0⟩ := open_int Tryd.underlying5 (hval 0 5 v0 rfl rfl) h0
  obtain ⟨T1, D1, K1, n1, rfl, w1⟩ := facts_value Tryd.underlying23 (by kernel_rfl) (by kernel_rfl) Tryd.underlying4 Tryd.underlying4 Tryd.underlying4 Tryd.underlying3 (hval 1 23 v1 rfl rfl) h1
  clear hA0 hval0
  refine (walk a0 w0 T1 D1 K1 n1 w1 W HT).mono fun e W' ⟨he, hg⟩ => ?_
  subst he
  exact ⟨_, rfl, law_post rfl Tryd.underlying4 laidOut (by kernel_rfl) rfl hW' rfl hg⟩

theorem over : Rows.timingListsRow.holds Tryd.pinned (OpenSpec.ofChange Rows.timingListsSpec) :=
  OpenClaim.holds_of_wide 3 Tryd.f3 rfl rfl rfl rfl rfl rfl rfl ⟨rfl, rfl, rfl, rfl, rfl⟩ rfl rfl rfl rfl rfl (by kernel_rfl) Tryd.func3 (by kernel_rfl)
    (of_decide_eq_true (by kernel_rfl)) (by unfold Func.isWrapper; first | (rw [if_pos (by decide +kernel)]; kernel_rfl) | (rw [if_neg (by decide +kernel)]; exact ⟨rfl, rfl⟩))
    (fun os started H enc _ => lifted os started H enc)

theorem proved : Rows.TimingListsCardSaid :=
  Claim7.holds_tied_plain_at .later [] [.data, .pinned] true _ false
    over (fun _ h => by cases h) (by kernel_rfl) (fun _ h => by cases h) timingLists_row_tie rfl ⟨rfl, rfl⟩ (by kernel_rfl) rfl
    (fun f fn hf hfn => by
      obtain rfl : f = 3 := Option.some.inj ((show Tryd.prog.funcNamed "gannet/gannetlaw29.TimingLists" = some 3 by kernel_rfl).symm.trans hf) |>.symm
      obtain rfl : fn = Tryd.f3 := (Option.some.inj (Tryd.func3.symm.trans hfn)).symm
      exact ⟨by kernel_rfl, fun j t ht => by
        rw [Tryd.params3] at ht
        have hm : t ∈ [5, 23] := by simpa using Array.mem_of_getElem? ht
        have hall : ([5, 23].all fun u => !Tryd.prog.wantsStandIn u) = true := by kernel_rfl
        exact (show Tryd.prog.wantsStandIn t = false by simpa using List.all_eq_true.1 hall t hm)⟩)
    (by kernel_rfl)
#print axioms proved
end Go.Proofs.YtmbbcfdeielopaaDoorRRRR.timingLists
