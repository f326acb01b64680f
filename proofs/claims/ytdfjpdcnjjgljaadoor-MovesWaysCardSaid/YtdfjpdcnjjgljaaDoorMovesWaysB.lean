/-
  For every input MovesWays returns true, and each argument reads behind the call as it read before. The one condition: when the call begins the package-level variables that the row lists hold what the program lays in them (TIED: the card shows it of the text of the project, pruned to the packages that this seat loads).
-/
import Derived.Test.YtdfjpdcnjjgljaaDoorRows
import Derived.Test.YtdfjpdcnjjgljaaDoorKMV01
import Derived.SevenTiedAt
import Derived.ProofKit
import Derived.LaidMore
import Derived.OpenShut
import Derived.Stop.Joined
import Derived.Test.YtdfjpdcnjjgljaaDoorCards
import Derived.Test.YtdfjpdcnjjgljaaDoorTie
import Derived.Test.YtdfjpdcnjjgljaaDoorKMV20
namespace Go.Proofs.YtdfjpdcnjjgljaaDoor.movesWays
open Go.ChangeShapes Go.WideShapes Go.ChangeAt Go.RowKit
open Go.ChangeMaps (open_string)

set_option linter.unusedVariables false
set_option linter.unusedSimpArgs false
set_option maxRecDepth 100000 in
set_option maxHeartbeats 8000000 in
theorem walk (k : Int) (wk : (Lit.int .u8 k).wf = true) (f : Int) (wf : (Lit.int .u16 f).wf = true) (t : Int) (wt : (Lit.int .u16 t).wf = true) (l : Int) (wl : (Lit.int .u16 l).wf = true) (n : Int) (wn : (Lit.int .i64 n).wf = true) (W : World) (hT : Tabs W) :
    Calls Tryd.prog 7 #[.int .u8 k, .int .u16 f, .int .u16 t, .int .u16 l, .int .i64 n] W fun e w' => e = .returned (.bool true) ∧ Below W.heap.size W w' := by
  obtain ⟨k0, k1⟩ := bounds_u8 wk
  obtain ⟨f0, f1⟩ := bounds_u16 wf
  obtain ⟨t0, t1⟩ := bounds_u16 wt
  obtain ⟨K, rfl⟩ : ∃ K : Nat, k = K := ⟨k.toNat, by omega⟩
  obtain ⟨l0, l1⟩ := bounds_u16 wl
  obtain ⟨n0, n1⟩ := bounds_i64 wn
  have HT := Lib.hid hT
  have hAt := fun W => vat_any K f t n f0 f1 t0 t1 n0 n1 W
  have hAll := fun W => vall_any K f t l f0 f1 t0 t1 l0 l1 W
  have hEnds := fun W => vends_any K f t l f0 f1 t0 t1 l0 l1 W
  have hC := fun W => vcount_any l l0 l1 W
  have hRC := fun W => rvcount_any l l0 l1 W
  obtain ⟨c0, c1⟩ := cntP_bd l l0 l1
  unfold AllR at hAll
  obtain ⟨m, hm⟩ : ∃ m : Nat, cntP l = (m : Int) := ⟨(cntP l).toNat, by omega⟩
  rw [hm] at hC hRC hEnds c0 c1
  rw [show (cntP l).toNat = m by omega] at hAll
  clear hT wk wf wt wl wn hm
  by_cases hk : 5 ≤ K
  · unfold atV at hAt
    rw [if_neg (by omega)] at hAt
    simp only [if_neg (show ¬ K < 5 by omega)] at hEnds
    have hwl : wayL K m = [] := if_neg (by omega)
    rw [hwl] at hAll
    have h2 : (4 : Int) < K := by omega
    go_enter Tryd.func7, Tryd.ntmps7
    go_wp2_with fail
    refine (live26 HT.out).mono ?_
    rintro e w0 ⟨rfl, b0⟩
    have HB0 := Lib.hid b0
    clear b0
    go_wp2_with fail
    refine (hAt _).mono ?_
    rintro e w1 ⟨rfl, b⟩
    have HB1 := Lib.hid ((HB0.out.trans (b.mono HB0.out.size)).alloc (HB0.out.trans (b.mono HB0.out.size)).size (.cells #[.int .u16 (0), .int .u16 (0)] 48))
    have bm := Blk.new w1 48 #[.int .u16 (0), .int .u16 (0)]
    clear b
    go_wp2_with fail
    refine (hAll _).mono ?_
    rintro e w2 ⟨v, rfl, own, b⟩
    have HB2 := Lib.hid (HB1.out.trans (b.mono HB1.out.size))
    have bm2 := bm.below b bm.lt
    have m0 : w2.cell? ⟨w1.heap.size, 0, none⟩ = some (.int .u16 (0)) := bm2.cell 0
    have m1 : w2.cell? ⟨w1.heap.size, 1, none⟩ = some (.int .u16 (0)) := bm2.cell 1
    have BM := Lib.hid bm2
    clear bm bm2
    obtain ⟨A, cap, rfl⟩ : ∃ A cap, v = .slice A 0 cap := by
      rcases own.2 with ⟨h, _⟩ | ⟨g, cap, cur, h, _, _, _, _, _, _⟩
      · exact ⟨_, _, h⟩
      · exact ⟨_, _, h⟩
    clear own b
    clear m0 m1
    go_wp2_with fail
    refine (hEnds _).mono ?_
    rintro e w3 ⟨rfl, b⟩
    have HB3 := Lib.hid (HB2.out.trans (b.mono HB2.out.size))
    have bm3 := BM.out.below b BM.out.lt
    have m0 : w3.cell? ⟨w1.heap.size, 0, none⟩ = some (.int .u16 0) := bm3.cell 0
    have m1 : w3.cell? ⟨w1.heap.size, 1, none⟩ = some (.int .u16 0) := bm3.cell 1
    clear b
    go_wp2_with fail
    go_ret
    exact ⟨rfl, HB3.out⟩
  · have h2 : ¬ (4 : Int) < K := by omega
    have hk5 : K < 5 := by omega
    simp only [if_pos hk5] at hEnds
    have hwl : wayL K m = List.range m := if_pos hk5
    rw [hwl] at hAll
    simp only [List.length_range] at hAll
    have hm0 : 0 < m := by omega
    have hne : List.range m ≠ [] := by intro h; have := congrArg List.length h; simp at this; omega
    obtain ⟨x, hx⟩ : ∃ x, mvF K f (m : Int) = x := ⟨_, rfl⟩
    obtain ⟨y, hy⟩ : ∃ y, mvT K t (m : Int) = y := ⟨_, rfl⟩
    have hRm := fun W => rvat_any K hk5 f t (m : Int) f0 f1 t0 t1 (by omega) (by omega) W
    rw [hx, hy] at hEnds hRm
    clear hx hy
    by_cases hn : n < 0
    · unfold atV at hAt
      rw [if_neg (by omega)] at hAt
      go_enter Tryd.func7, Tryd.ntmps7
      go_wp2_with fail
      refine (live26 HT.out).mono ?_
      rintro e w0 ⟨rfl, b0⟩
      have HB0 := Lib.hid b0
      clear b0
      go_wp2_with fail
      refine (hAt _).mono ?_
      rintro e w1 ⟨rfl, b⟩
      have HB1 := Lib.hid ((HB0.out.trans (b.mono HB0.out.size)).alloc (HB0.out.trans (b.mono HB0.out.size)).size (.cells #[.int .u16 (0), .int .u16 (0)] 48))
      have bm := Blk.new w1 48 #[.int .u16 (0), .int .u16 (0)]
      clear b
      go_wp2_with fail
      refine (hAll _).mono ?_
      rintro e w2 ⟨v, rfl, own, b⟩
      have HB2 := Lib.hid (HB1.out.trans (b.mono HB1.out.size))
      have bm2 := bm.below b bm.lt
      have m0 : w2.cell? ⟨w1.heap.size, 0, none⟩ = some (.int .u16 (0)) := bm2.cell 0
      have m1 : w2.cell? ⟨w1.heap.size, 1, none⟩ = some (.int .u16 (0)) := bm2.cell 1
      have BM := Lib.hid bm2
      clear bm bm2
      obtain ⟨g, cap, rfl, hg, hgl, hcell⟩ := wyRow (l := List.range m) (by rw [List.length_range]; exact own) hne
      have HCE := Lib.hid hcell
      clear own hcell
      rw [List.length_range]
      clear m0 m1
      go_wp2_with fail
      refine (hEnds _).mono ?_
      rintro e w3 ⟨rfl, b3⟩
      have HB3 := Lib.hid (HB2.out.trans (b3.mono HB2.out.size))
      have bm3 := BM.out.below b3 BM.out.lt
      have m0 : w3.cell? ⟨w1.heap.size, 0, none⟩ = some (.int .u16 (0)) := bm3.cell 0
      have m1 : w3.cell? ⟨w1.heap.size, 1, none⟩ = some (.int .u16 (0)) := bm3.cell 1
      have HBB := Lib.hid b3
      clear b b3 bm3
      go_wp2_with (first
        | (go_at_call 32; refine (hRC _).mono ?_; rintro e w' ⟨rfl, rfl⟩)
        | (go_at_call 33; refine (hC _).mono ?_; rintro e w' ⟨rfl, rfl⟩))
      go_loopw [20] (fun i wr => ∃ q : Nat, q ≤ m ∧ i = .int .i64 q ∧ Below w3.heap.size w3 wr) (fun i _ => m - (intOf i).toNat)
      case atStart => exact ⟨0, by omega, rfl, Below.refl _ _⟩
      case round =>
        obtain ⟨i, hi, rfl, hB⟩ := hrel
        by_cases hlt : i < m
        · have i0 : (0 : Int) ≤ i := by omega
          have i1 : (i : Int) < m := by omega
          have hRi := fun W => rvat_any K hk5 f t (i : Int) f0 f1 t0 t1 i0 (by omega) W
          obtain ⟨d0, d1⟩ := HCE.out i i (by rw [List.getElem?_range hlt])
          have e0 := (hB.cell (by have := HBB.out.size; show g < _; omega)).trans ((HBB.out.cell (by exact hgl)).trans d0)
          have e1' := (hB.cell (by have := HBB.out.size; show g < _; omega)).trans ((HBB.out.cell (by exact hgl)).trans d1)
          generalize mvF K f (i : Int) = u at *
          generalize mvT K t (i : Int) = v at *
          have k1' : (u == u) = true := beq_self_eq_true _
          have k2' : (v == v) = true := beq_self_eq_true _
          rw [show 2 * i = i * 2 by omega] at e0 e1'
          clear d0 d1
          go_wp2_with (go_at_call_of 31 (Value.int .i64 (i : Int)); refine (hRi _).mono ?_; rintro e w' ⟨rfl, rfl⟩)
          go_roundw
          case rel => exact ⟨i + 1, by omega, by go_num, hB⟩
          case measure => simp [intOf]; omega
        · obtain rfl : i = m := by omega
          have i1 : ¬ (i : Int) < i := by omega
          have k1' : (x == x) = true := beq_self_eq_true _
          have k2' : (y == y) = true := beq_self_eq_true _
          have HBE := Lib.hid (HB3.out.trans (hB.mono HB3.out.size))
          clear hB
          go_wp2_with (go_at_call 31; refine (hRm _).mono ?_; rintro e w' ⟨rfl, rfl⟩)
          go_ret
          exact ⟨rfl, HBE.out⟩
    · have hnn : 0 ≤ n := by omega
      have hRn := fun W => rvat_any K hk5 f t n f0 f1 t0 t1 hnn n1 W
      unfold atV at hAt
      rw [if_pos ⟨hk5, hnn⟩] at hAt
      generalize mvF K f n = p at hAt hRn
      generalize mvT K t n = q at hAt hRn
      have e1 : (p == p) = true := beq_self_eq_true _
      have e2 : (q == q) = true := beq_self_eq_true _
      go_enter Tryd.func7, Tryd.ntmps7
      go_wp2_with fail
      refine (live26 HT.out).mono ?_
      rintro e w0 ⟨rfl, b0⟩
      have HB0 := Lib.hid b0
      clear b0
      go_wp2_with fail
      refine (hAt _).mono ?_
      rintro e w1 ⟨rfl, b⟩
      have HB1 := Lib.hid ((HB0.out.trans (b.mono HB0.out.size)).alloc (HB0.out.trans (b.mono HB0.out.size)).size (.cells #[.int .u16 (p), .int .u16 (q)] 48))
      have bm := Blk.new w1 48 #[.int .u16 (p), .int .u16 (q)]
      clear b
      go_wp2_with fail
      refine (hAll _).mono ?_
      rintro e w2 ⟨v, rfl, own, b⟩
      have HB2 := Lib.hid (HB1.out.trans (b.mono HB1.out.size))
      have bm2 := bm.below b bm.lt
      have m0 : w2.cell? ⟨w1.heap.size, 0, none⟩ = some (.int .u16 (p)) := bm2.cell 0
      have m1 : w2.cell? ⟨w1.heap.size, 1, none⟩ = some (.int .u16 (q)) := bm2.cell 1
      have BM := Lib.hid bm2
      clear bm bm2
      obtain ⟨g, cap, rfl, hg, hgl, hcell⟩ := wyRow (l := List.range m) (by rw [List.length_range]; exact own) hne
      have HCE := Lib.hid hcell
      clear own hcell
      rw [List.length_range]
      clear m0 m1
      go_wp2_with fail
      refine (hEnds _).mono ?_
      rintro e w3 ⟨rfl, b3⟩
      have HB3 := Lib.hid (HB2.out.trans (b3.mono HB2.out.size))
      have bm3 := BM.out.below b3 BM.out.lt
      have m0 : w3.cell? ⟨w1.heap.size, 0, none⟩ = some (.int .u16 (p)) := bm3.cell 0
      have m1 : w3.cell? ⟨w1.heap.size, 1, none⟩ = some (.int .u16 (q)) := bm3.cell 1
      have HBB := Lib.hid b3
      clear b b3 bm3
      go_wp2_with (first
        | (go_at_call_of 31 (Value.int .i64 n); refine (hRn _).mono ?_; rintro e w' ⟨rfl, rfl⟩)
        | (go_at_call 32; refine (hRC _).mono ?_; rintro e w' ⟨rfl, rfl⟩)
        | (go_at_call 33; refine (hC _).mono ?_; rintro e w' ⟨rfl, rfl⟩))
      go_loopw [20] (fun i wr => ∃ q : Nat, q ≤ m ∧ i = .int .i64 q ∧ Below w3.heap.size w3 wr) (fun i _ => m - (intOf i).toNat)
      case atStart => exact ⟨0, by omega, rfl, Below.refl _ _⟩
      case round =>
        obtain ⟨i, hi, rfl, hB⟩ := hrel
        by_cases hlt : i < m
        · have i0 : (0 : Int) ≤ i := by omega
          have i1 : (i : Int) < m := by omega
          have hRi := fun W => rvat_any K hk5 f t (i : Int) f0 f1 t0 t1 i0 (by omega) W
          obtain ⟨d0, d1⟩ := HCE.out i i (by rw [List.getElem?_range hlt])
          have e0 := (hB.cell (by have := HBB.out.size; show g < _; omega)).trans ((HBB.out.cell (by exact hgl)).trans d0)
          have e1' := (hB.cell (by have := HBB.out.size; show g < _; omega)).trans ((HBB.out.cell (by exact hgl)).trans d1)
          generalize mvF K f (i : Int) = u at *
          generalize mvT K t (i : Int) = v at *
          have k1' : (u == u) = true := beq_self_eq_true _
          have k2' : (v == v) = true := beq_self_eq_true _
          rw [show 2 * i = i * 2 by omega] at e0 e1'
          clear d0 d1
          go_wp2_with (go_at_call_of 31 (Value.int .i64 (i : Int)); refine (hRi _).mono ?_; rintro e w' ⟨rfl, rfl⟩)
          go_roundw
          case rel => exact ⟨i + 1, by omega, by go_num, hB⟩
          case measure => simp [intOf]; omega
        · obtain rfl : i = m := by omega
          have i1 : ¬ (i : Int) < i := by omega
          have k1' : (x == x) = true := beq_self_eq_true _
          have k2' : (y == y) = true := beq_self_eq_true _
          have HBE := Lib.hid (HB3.out.trans (hB.mono HB3.out.size))
          clear hB
          go_wp2_with (go_at_call 31; refine (hRm _).mono ?_; rintro e w' ⟨rfl, rfl⟩)
          go_ret
          exact ⟨rfl, HBE.out⟩

theorem own : ownKnob Tryd.prog.godebug = none := by kernel_rfl
theorem laidOut : laidOutB Tryd.prog = true := by kernel_rfl
theorem door_met (os : Os) (args : Array Value) : laidMetH Tryd.prog laid2 ((World.doorLaid Tryd.prog 400 os).forCall (fun _ _ => 0) ⟨#[], args, []⟩).memory :=
  laidMetH_of_parts3 (fuel := 8) (laidMet_of_run' 8 (by kernel_rfl) (by kernel_rfl)) (by kernel_rfl) (by kernel_rfl)
set_option maxRecDepth 100000 in
theorem lifted (os : Os) (started : os.Started) (H : Type) (enc : TypeId × Value → H) :
    ReturnsInHanded {} Tryd.checked os 7 .any (fun w args => (Rows.movesWaysSpec.pre enc Tryd.prog Tryd.f7 [] false w args ∧ laidMetH Tryd.prog laid2 w) ∧ sizedMet enc Tryd.prog Tryd.f7 (OpenSpec.ofChange Rows.movesWaysSpec) false w args)
      (Rows.movesWaysSpec.post enc Tryd.prog Tryd.f7 false true false false) := by
  refine returnsInHanded_of_change_and (C := Tryd.checked) (X := fun w _ => laidMetH Tryd.prog laid2 w) (fun _ _ _ hh h => h.of_heap hh) own started (by kernel_rfl) Tryd.func7
    (ChangeSpec.witness_shaped (enc := enc) (C := Tryd.checked) (os := os) (X := fun w _ => laidMetH Tryd.prog laid2 w) false (World.doorLaid Tryd.prog 400 os) #[.int .u8 0, .int .u16 0, .int .u16 0, .int .u16 0, .int .i64 0] 8 rfl (World.shaped_of_RefB (by kernel_rfl) (by kernel_rfl)) (by kernel_rfl) (by kernel_rfl) (by kernel_rfl) (door_met os _)) ?_
  intro W base args ds gs before hval0 hW _ _ hL0 _
  have hL : laidMetH Tryd.prog laid2 W := hL0
  rw [MakeChecks.laidMetH_plain _ _ _ (by kernel_rfl)] at hL
  have HT := of_laid hL
  have hval : ∀ (j : Nat) t v, Tryd.f7.params[j]? = some t → args[j]? = some v → Value.okWide Tryd.prog W .any base t v := hval0
  have hW' := hW
  obtain ⟨p, q, hA0, hV, rfl, _, _⟩ := hW
  have hA : DataW.TrodAll enc Tryd.prog W 0 (fun _ => true) true Tryd.f7.params.toList args.toList ds p := hA0
  rw [Tryd.params7] at hA hval
  obtain ⟨v0, vs0, d0, ds0, p0, q0, hargs, rfl, rfl, h0, r0⟩ := trodAll_cons hA
  obtain ⟨v1, vs1, d1, ds1, p1, q1, rfl, rfl, rfl, h1, r1⟩ := trodAll_cons r0
  obtain ⟨v2, vs2, d2, ds2, p2, q2, rfl, rfl, rfl, h2, r2⟩ := trodAll_cons r1
  obtain ⟨v3, vs3, d3, ds3, p3, q3, rfl, rfl, rfl, h3, r3⟩ := trodAll_cons r2
  obtain ⟨v4, vs4, d4, ds4, p4, q4, rfl, rfl, rfl, h4, r4⟩ := trodAll_cons r3
  obtain ⟨rfl, rfl, rfl⟩ := trodAll_nil r4
  obtain rfl : args = #[v0, v1, v2, v3, v4] := by cases args; simp_all
  obtain ⟨rfl, rfl⟩ := trodVars_none hV
  obtain ⟨a0, rfl, rfl, rfl, w0⟩ := open_int Tryd.underlying5 (hval 0 5 v0 rfl rfl) h0
  obtain ⟨a1, rfl, rfl, rfl, w1⟩ := open_int Tryd.underlying22 (hval 1 22 v1 rfl rfl) h1
  obtain ⟨a2, rfl, rfl, rfl, w2⟩ := open_int Tryd.underlying22 (hval 2 22 v2 rfl rfl) h2
  obtain ⟨a3, rfl, rfl, rfl, w3⟩ := open_int Tryd.underlying22 (hval 3 22 v3 rfl rfl) h3
  obtain ⟨a4, rfl, rfl, rfl, w4⟩ := open_int Tryd.underlying3 (hval 4 3 v4 rfl rfl) h4
  clear hA0 hval0
  refine (walk a0 w0 a1 w1 a2 w2 a3 w3 a4 w4 W HT).mono fun e W' ⟨he, hg⟩ => ?_
  subst he
  exact ⟨_, rfl, law_post rfl Tryd.underlying4 laidOut (by kernel_rfl) rfl hW' rfl hg⟩

theorem over : Rows.movesWaysRow.holds Tryd.pinned (OpenSpec.ofChange Rows.movesWaysSpec) :=
  OpenClaim.holds_of_wide 7 Tryd.f7 rfl rfl rfl rfl rfl rfl rfl ⟨rfl, rfl, rfl, rfl, rfl⟩ rfl rfl rfl rfl rfl (by kernel_rfl) Tryd.func7 (by kernel_rfl)
    (of_decide_eq_true (by kernel_rfl)) (by unfold Func.isWrapper; first | (rw [if_pos (by decide +kernel)]; kernel_rfl) | (rw [if_neg (by decide +kernel)]; exact ⟨rfl, rfl⟩))
    (fun os started H enc _ => lifted os started H enc)

theorem proved : Rows.MovesWaysCardSaid :=
  Claim7.holds_tied_plain_at .later [] [.data] true _ false
    over (fun _ h => by cases h) (by kernel_rfl) (fun _ h => by cases h) movesWays_row_tie rfl ⟨rfl, rfl⟩ (by kernel_rfl) rfl
    (fun f fn hf hfn => by
      obtain rfl : f = 7 := Option.some.inj ((show Tryd.prog.funcNamed "gannet/gannetlaw26.MovesWays" = some 7 by kernel_rfl).symm.trans hf) |>.symm
      obtain rfl : fn = Tryd.f7 := (Option.some.inj (Tryd.func7.symm.trans hfn)).symm
      exact ⟨by kernel_rfl, fun j t ht => by
        rw [Tryd.params7] at ht
        have hm : t ∈ [5, 22, 22, 22, 3] := by simpa using Array.mem_of_getElem? ht
        have hall : ([5, 22, 22, 22, 3].all fun u => !Tryd.prog.wantsStandIn u) = true := by kernel_rfl
        exact (show Tryd.prog.wantsStandIn t = false by simpa using List.all_eq_true.1 hall t hm)⟩)
    (by kernel_rfl)
#print axioms proved
end Go.Proofs.YtdfjpdcnjjgljaaDoor.movesWays
