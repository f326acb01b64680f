/-
  Texts of these proofs, one behind the other: Scr12, Scr13, Scr14.
-/
import Derived.Test.YtnhnphifhkkboaaDoorKSW30
import Derived.Test.YtnhnphifhkkboaaDoorKSW23
import Derived.Test.YtnhnphifhkkboaaDoorKSW31
import Derived.Test.YtnhnphifhkkboaaDoorKSW25
namespace Go.Proofs.YtnhnphifhkkboaaDoor
open Go.RowKit Go.Shelf
set_option linter.unusedVariables false
set_option linter.unusedSimpArgs false
set_option maxRecDepth 100000
/-- A script by value. -/
structure Sv where
  A : Option Addr
  n : Nat
  ca : Nat
  V : Option Addr
  a : Nat
  cv : Nat
  C : Option Addr
  b : Nat
  cc : Nat
  R : Option Addr
  c : Nat
  cr : Nat
  E : Option Addr
  m : Nat
  ce : Nat
  bud : Int
def Sv.cs (s : Sv) : Array Value := #[.slice s.A s.n s.ca, .slice s.V s.a s.cv, .slice s.C s.b s.cc, .slice s.R s.c s.cr, .slice s.E s.m s.ce, .int .i64 s.bud]
/-- Lengths that a machine can have. -/
structure SvOk (s : Sv) : Prop where
  n : s.n ≤ 9223372036854775807
  a : s.a ≤ 9223372036854775807
  b : s.b ≤ 9223372036854775807
  c : s.c ≤ 9223372036854775807
  m : s.m ≤ 9223372036854775807
  b0 : -9223372036854775808 ≤ s.bud
  b1 : s.bud ≤ 9223372036854775807
def chkS (n a b c : Nat) (es : Nat → Iib) (m : Nat) (bud : Int) : Int × Int :=
  if imgE n = 6 then (6, 0) else if longB a b c = true then (2, 0) else if (chk es m).1 ≠ 0 then chk es m else if bud < 0 ∨ 1099511627776 < bud then (9, 0) else (0, 0)
theorem chk_nz (es : Nat → Iib) (m : Nat) (h : (chk es m).1 = 0) : chk es m = (0, 0) := (chk_zero h).2.2
theorem below_set2 {B g : Nat} {a w : World} (h : Below B a w) (hg : B ≤ g) (u v : Value) : Below B a ((w.setCell ⟨g, 0, none⟩ u).setCell ⟨g, 1, none⟩ v) := (h.setCell (p := ⟨g, 0, none⟩) hg u).setCell (p := ⟨g, 1, none⟩) hg v
set_option maxHeartbeats 8000000 in
theorem sccheck_any {w : World} (s : Sv) (es : Nat → Iib) (hs : SvOk s) (R : ERow w s.E s.m es) :
    Calls Tryd.prog 13 #[.agg s.cs] w fun e w' => e = .returned (fltV (chkS s.n s.a s.b s.c es s.m s.bud)) ∧ Below w.heap.size w w' := by
  obtain ⟨A, n, ca, V, a, cv, C, b, cc, RA, c, cr, EA, m, ce, bud⟩ := s
  obtain ⟨h1, h2, h3, h4, h5, h6, h7⟩ := hs
  dsimp only at *
  obtain ⟨RES, hRES⟩ : ∃ RES, chkS n a b c es m bud = RES := ⟨_, rfl⟩
  rw [hRES]
  have HC := Lib.hid hRES
  clear hRES
  unfold Sv.cs
  dsimp only
  go_enter Tryd.func13, Tryd.ntmps13
  go_upto_region 1 with fail
  have hS1 : Blk ((w.alloc (.cells #[.slice A n ca, .slice V a cv, .slice C b cc, .slice RA c cr, .slice EA m ce, .int .i64 bud] 27)).alloc (.cells #[.int .i64 0, .int .i64 0] 34)) w.heap.size 27 #[.slice A n ca, .slice V a cv, .slice C b cc, .slice RA c cr, .slice EA m ce, .int .i64 bud] := (Blk.new w _ _).alloc _
  have hF1 : Blk ((w.alloc (.cells #[.slice A n ca, .slice V a cv, .slice C b cc, .slice RA c cr, .slice EA m ce, .int .i64 bud] 27)).alloc (.cells #[.int .i64 0, .int .i64 0] 34)) (w.heap.size + 1) 34 #[.int .i64 0, .int .i64 0] := Blk.new_ (by simp)
  have hB1 : Below w.heap.size w ((w.alloc (.cells #[.slice A n ca, .slice V a cv, .slice C b cc, .slice RA c cr, .slice EA m ce, .int .i64 bud] 27)).alloc (.cells #[.int .i64 0, .int .i64 0] 34)) := ((Below.refl _ w).alloc (Nat.le_refl _) _).alloc (by simp) _
  generalize World.alloc (World.alloc w _) _ = w1 at hS1 hF1 hB1 ⊢
  have R1 := R.keep hB1
  obtain ⟨gS, hgS⟩ : ∃ g, w.heap.size = g := ⟨_, rfl⟩
  obtain ⟨gF, hgF⟩ : ∃ g, gS + 1 = g := ⟨_, rfl⟩
  rw [hgS] at hS1 hF1 ⊢
  rw [hgF] at hF1 ⊢
  have HGS := Lib.hid hgS
  have HGF := Lib.hid hgF
  have HGE := Lib.hid (show w.heap.size ≤ gF by omega)
  clear R hgS hgF
  have c0 : w1.cell? ⟨gS, 0, none⟩ = some (.slice A n ca) := hS1.cell 0
  have f0 : w1.cell? ⟨gF, 0, none⟩ = some (.int .i64 0) := hF1.cell 0
  have f1 : w1.cell? ⟨gF, 1, none⟩ = some (.int .i64 0) := hF1.cell 1
  have z0 : w1.frozen? ⟨gF, 0, none⟩ = false := hF1.frozen 0
  have z1 : w1.frozen? ⟨gF, 1, none⟩ = false := hF1.frozen 1
  have hck := fun W => check_any A n ca W (by unfold maxLen; omega)
  obtain ⟨q, hq⟩ : ∃ q, imgE n = q := ⟨_, rfl⟩
  have hq6 := imgE_or n
  rw [hq] at hck hq6
  have HQ := Lib.hid hq
  have HS := Lib.hid hS1
  have HF := Lib.hid hF1
  have HB := Lib.hid hB1
  have HR := Lib.hid R1
  clear hS1 hF1 hB1 R1 hq
  rcases hq6 with rfl | rfl
  · have c1 : w1.cell? ⟨gS, 1, none⟩ = some (.slice V a cv) := HS.out.cell 1
    have c2 : w1.cell? ⟨gS, 2, none⟩ = some (.slice C b cc) := HS.out.cell 2
    have c3 : w1.cell? ⟨gS, 3, none⟩ = some (.slice RA c cr) := HS.out.cell 3
    go_upto_region 4 with (go_at_call 44; refine (hck _).mono ?_; rintro e w' ⟨rfl, rfl⟩)
    have hfk := fun W => fcheck_any (w := W) V C RA a b c cv cc cr h2 h3 h4
    obtain ⟨l, hl⟩ : ∃ l, longB a b c = l := ⟨_, rfl⟩
    rw [hl] at hfk
    have HL := Lib.hid hl
    clear hl hck c0
    cases l with
    | true =>
      simp only [if_true] at hfk
      have hRR : RES = (2, 0) := by have := HC.out; unfold chkS at this; rw [HQ.out, HL.out, if_neg (by decide), if_pos rfl] at this; exact this.symm
      go_wp2_with fail
      refine (hfk _).mono ?_
      rintro e w2 ⟨rfl, hb2⟩
      have F2 := HF.out.below hb2 HF.out.lt
      have f0 : w2.cell? ⟨gF, 0, none⟩ = some (.int .i64 0) := F2.cell 0
      have f1 : w2.cell? ⟨gF, 1, none⟩ = some (.int .i64 0) := F2.cell 1
      have z0 : w2.frozen? ⟨gF, 0, none⟩ = false := F2.frozen 0
      have z1 : w2.frozen? ⟨gF, 1, none⟩ = false := F2.frozen 1
      have FF := Lib.hid F2
      have BB := Lib.hid (HB.out.trans (hb2.mono HB.out.size))
      clear hb2 F2 c1 c2 c3
      go_wp2_with fail
      have hb : Blk _ gF 34 #[.int .i64 2, .int .i64 0] := (FF.out.set_ 0 (.int .i64 2)).set_ 1 (.int .i64 0)
      refine bodyPost_ret (v := fltV (2, 0)) (results_cell (a := ⟨gF, 0, none⟩) Tryd.results13 (by rfl) (hb.run_load (P := Tryd.prog) Tryd.underlying34 rfl sizeF)) rfl ?_
      exact ⟨by first | rfl | rw [hRR], below_set2 BB.out HGE.out _ _⟩
    | false =>
      simp only [Bool.false_eq_true, if_false] at hfk
      go_wp2_with fail
      refine (hfk _).mono ?_
      rintro e w2 ⟨rfl, hb2⟩
      have F2 := Lib.hid (HF.out.below hb2 HF.out.lt)
      have S2 := Lib.hid (HS.out.below hb2 HS.out.lt)
      have B2 := Lib.hid (HB.out.trans (hb2.mono HB.out.size))
      have R2 := HR.out.keep hb2
      have c4 : w2.cell? ⟨gS, 4, none⟩ = some (.slice EA m ce) := S2.out.cell 4
      have hlk := lncheck_any (c := ce) R2 h5
      obtain ⟨q, hq⟩ : ∃ q, chk es m = q := ⟨_, rfl⟩
      rw [hq] at hlk
      have HQ2 := Lib.hid hq
      have HLK := Lib.hid hlk
      obtain ⟨q1, q2⟩ := q
      clear hb2 hq hlk R2 f0 f1 z0 z1 c1 c2 c3 hfk
      go_wp2_with fail
      refine HLK.out.mono ?_
      rintro e w3 ⟨rfl, hb3⟩
      have F3 := Lib.hid (F2.out.below hb3 F2.out.lt)
      have S3 := Lib.hid (S2.out.below hb3 S2.out.lt)
      have B3 := Lib.hid (B2.out.trans (hb3.mono B2.out.size))
      clear hb3 c4
      unfold fltV
      dsimp only
      go_upto_region 8 with fail
      have X4 : Blk (w3.alloc (.cells #[.int .i64 q1, .int .i64 q2] 34)) w3.heap.size 34 #[.int .i64 q1, .int .i64 q2] := Blk.new _ _ _
      have S4 := S3.out.alloc (.cells #[.int .i64 q1, .int .i64 q2] 34)
      have F4 := F3.out.alloc (.cells #[.int .i64 q1, .int .i64 q2] 34)
      have B4 := B3.out.alloc B3.out.size (.cells #[.int .i64 q1, .int .i64 q2] 34)
      generalize World.alloc w3 _ = w4 at X4 S4 F4 B4 ⊢
      obtain ⟨gX, hgX⟩ : ∃ g, w3.heap.size = g := ⟨_, rfl⟩
      rw [hgX] at X4 ⊢
      have x0 : w4.cell? ⟨gX, 0, none⟩ = some (.int .i64 q1) := X4.cell 0
      have x1 : w4.cell? ⟨gX, 1, none⟩ = some (.int .i64 q2) := X4.cell 1
      have f0 : w4.cell? ⟨gF, 0, none⟩ = some (.int .i64 0) := F4.cell 0
      have f1 : w4.cell? ⟨gF, 1, none⟩ = some (.int .i64 0) := F4.cell 1
      have z0 : w4.frozen? ⟨gF, 0, none⟩ = false := F4.frozen 0
      have z1 : w4.frozen? ⟨gF, 1, none⟩ = false := F4.frozen 1
      have c5 : w4.cell? ⟨gS, 5, none⟩ = some (.int .i64 bud) := S4.cell 5
      have FF := Lib.hid F4
      have BB := Lib.hid B4
      clear X4 S4 F4 B4 hgX
      by_cases hq1 : q1 = 0
      · have hq2 : q2 = 0 := by
          have := chk_nz es m (by rw [HQ2.out]; exact hq1)
          rw [HQ2.out] at this
          exact (Prod.mk.inj this).2
        subst hq1 hq2
        by_cases hbud : bud < 0 ∨ 1099511627776 < bud
        · have hRR : RES = (9, 0) := by have := HC.out; unfold chkS at this; rw [HQ.out, HL.out, HQ2.out, if_neg (by decide), if_neg (by decide), if_neg (by simp), if_pos hbud] at this; exact this.symm
          rcases hbud with hbud | hbud
          all_goals (
            have hbb : (bud < 0 ∨ 1099511627776 < bud) := by omega
            go_wp2_with fail
            all_goals (
              have hb : Blk _ gF 34 #[.int .i64 9, .int .i64 0] := (FF.out.set_ 0 (.int .i64 9)).set_ 1 (.int .i64 0)
              refine bodyPost_ret (v := fltV (9, 0)) (results_cell (a := ⟨gF, 0, none⟩) Tryd.results13 (by rfl) (hb.run_load (P := Tryd.prog) Tryd.underlying34 rfl sizeF)) rfl ?_
              exact ⟨by first | rfl | rw [hRR], below_set2 BB.out HGE.out _ _⟩))
        · have hRR : RES = (0, 0) := by have := HC.out; unfold chkS at this; rw [HQ.out, HL.out, HQ2.out, if_neg (by decide), if_neg (by decide), if_neg (by simp), if_neg hbud] at this; exact this.symm
          have b1 : ¬ bud < 0 := fun h => hbud (Or.inl h)
          have b2 : ¬ 1099511627776 < bud := fun h => hbud (Or.inr h)
          clear hbud
          go_wp2_with fail
          all_goals (
            have hb : Blk _ gF 34 #[.int .i64 0, .int .i64 0] := (FF.out.set_ 0 (.int .i64 0)).set_ 1 (.int .i64 0)
            refine bodyPost_ret (v := fltV (0, 0)) (results_cell (a := ⟨gF, 0, none⟩) Tryd.results13 (by rfl) (hb.run_load (P := Tryd.prog) Tryd.underlying34 rfl sizeF)) rfl ?_
            exact ⟨by first | rfl | rw [hRR], below_set2 BB.out HGE.out _ _⟩)
      · have hRR : RES = (q1, q2) := by have := HC.out; unfold chkS at this; rw [HQ.out, HL.out, HQ2.out, if_neg (by decide), if_neg (by decide), if_pos hq1] at this; exact this.symm
        have e1 : (q1 == 0) = false := by rw [beq_eq_false_iff_ne]; exact hq1
        clear hq1
        go_wp2_with fail
        all_goals (
          have hb : Blk _ gF 34 #[.int .i64 q1, .int .i64 q2] := (FF.out.set_ 0 (.int .i64 q1)).set_ 1 (.int .i64 q2)
          refine bodyPost_ret (v := fltV (q1, q2)) (results_cell (a := ⟨gF, 0, none⟩) Tryd.results13 (by rfl) (hb.run_load (P := Tryd.prog) Tryd.underlying34 rfl sizeF)) rfl ?_
          exact ⟨by first | rfl | rw [hRR], below_set2 BB.out HGE.out _ _⟩)
  · have hRR : RES = (6, 0) := by have := HC.out; unfold chkS at this; rw [HQ.out, if_pos rfl] at this; exact this.symm
    go_wp2_with (go_at_call 44; refine (hck _).mono ?_; rintro e w' ⟨rfl, rfl⟩)
    have hb : Blk _ gF 34 #[.int .i64 6, .int .i64 0] := (HF.out.set_ 0 (.int .i64 6)).set_ 1 (.int .i64 0)
    refine bodyPost_ret (v := fltV (6, 0)) (results_cell (a := ⟨gF, 0, none⟩) Tryd.results13 (by rfl) (hb.run_load (P := Tryd.prog) Tryd.underlying34 rfl sizeF)) rfl ?_
    exact ⟨by first | rfl | rw [hRR], below_set2 HB.out HGE.out _ _⟩
end Go.Proofs.YtnhnphifhkkboaaDoor
namespace Go.Proofs.YtnhnphifhkkboaaDoor
open Go.RowKit Go.Shelf
set_option linter.unusedVariables false
set_option linter.unusedSimpArgs false
set_option maxRecDepth 100000
set_option maxHeartbeats 8000000 in
theorem rsccheck_any {w : World} (s : Sv) (es : Nat → Iib) (hs : SvOk s) (R : ERow w s.E s.m es) :
    Calls Tryd.prog 14 #[.agg s.cs] w fun e w' => e = .returned (fltV (chkS s.n s.a s.b s.c es s.m s.bud)) ∧ Below w.heap.size w w' := by
  obtain ⟨A, n, ca, V, a, cv, C, b, cc, RA, c, cr, EA, m, ce, bud⟩ := s
  obtain ⟨h1, h2, h3, h4, h5, h6, h7⟩ := hs
  dsimp only at *
  obtain ⟨RES, hRES⟩ : ∃ RES, chkS n a b c es m bud = RES := ⟨_, rfl⟩
  rw [hRES]
  have HC := Lib.hid hRES
  clear hRES
  unfold Sv.cs
  dsimp only
  go_enter Tryd.func14, Tryd.ntmps14
  go_upto_region 1 with fail
  have hS1 : Blk ((w.alloc (.cells #[.slice A n ca, .slice V a cv, .slice C b cc, .slice RA c cr, .slice EA m ce, .int .i64 bud] 27)).alloc (.cells #[.int .i64 0, .int .i64 0] 34)) w.heap.size 27 #[.slice A n ca, .slice V a cv, .slice C b cc, .slice RA c cr, .slice EA m ce, .int .i64 bud] := (Blk.new w _ _).alloc _
  have hF1 : Blk ((w.alloc (.cells #[.slice A n ca, .slice V a cv, .slice C b cc, .slice RA c cr, .slice EA m ce, .int .i64 bud] 27)).alloc (.cells #[.int .i64 0, .int .i64 0] 34)) (w.heap.size + 1) 34 #[.int .i64 0, .int .i64 0] := Blk.new_ (by simp)
  have hB1 : Below w.heap.size w ((w.alloc (.cells #[.slice A n ca, .slice V a cv, .slice C b cc, .slice RA c cr, .slice EA m ce, .int .i64 bud] 27)).alloc (.cells #[.int .i64 0, .int .i64 0] 34)) := ((Below.refl _ w).alloc (Nat.le_refl _) _).alloc (by simp) _
  generalize World.alloc (World.alloc w _) _ = w1 at hS1 hF1 hB1 ⊢
  have R1 := R.keep hB1
  obtain ⟨gS, hgS⟩ : ∃ g, w.heap.size = g := ⟨_, rfl⟩
  obtain ⟨gF, hgF⟩ : ∃ g, gS + 1 = g := ⟨_, rfl⟩
  rw [hgS] at hS1 hF1 ⊢
  rw [hgF] at hF1 ⊢
  have HGS := Lib.hid hgS
  have HGF := Lib.hid hgF
  have HGE := Lib.hid (show w.heap.size ≤ gF by omega)
  clear R hgS hgF
  have c0 : w1.cell? ⟨gS, 0, none⟩ = some (.slice A n ca) := hS1.cell 0
  have f0 : w1.cell? ⟨gF, 0, none⟩ = some (.int .i64 0) := hF1.cell 0
  have f1 : w1.cell? ⟨gF, 1, none⟩ = some (.int .i64 0) := hF1.cell 1
  have z0 : w1.frozen? ⟨gF, 0, none⟩ = false := hF1.frozen 0
  have z1 : w1.frozen? ⟨gF, 1, none⟩ = false := hF1.frozen 1
  have hck := fun W => rcheck_any A n ca W (by unfold maxLen; omega)
  obtain ⟨q, hq⟩ : ∃ q, imgE n = q := ⟨_, rfl⟩
  have hq6 := imgE_or n
  rw [hq] at hck hq6
  have HQ := Lib.hid hq
  have HS := Lib.hid hS1
  have HF := Lib.hid hF1
  have HB := Lib.hid hB1
  have HR := Lib.hid R1
  clear hS1 hF1 hB1 R1 hq
  rcases hq6 with rfl | rfl
  · have c1 : w1.cell? ⟨gS, 1, none⟩ = some (.slice V a cv) := HS.out.cell 1
    have c2 : w1.cell? ⟨gS, 2, none⟩ = some (.slice C b cc) := HS.out.cell 2
    have c3 : w1.cell? ⟨gS, 3, none⟩ = some (.slice RA c cr) := HS.out.cell 3
    obtain ⟨l, hl⟩ : ∃ l, longB a b c = l := ⟨_, rfl⟩
    have HL := Lib.hid hl

    cases l with
    | true =>
      have hab : 10000 < a ∨ (¬ 10000 < a ∧ 10000 < b) ∨ (¬ 10000 < a ∧ ¬ 10000 < b ∧ 10000 < c) := by
        unfold longB at hl; simp only [decide_eq_true_eq] at hl; omega
      clear hl
      have hRR : RES = (2, 0) := by have := HC.out; unfold chkS at this; rw [HQ.out, HL.out, if_neg (by decide), if_pos rfl] at this; exact this.symm
      rcases hab with i1 | ⟨i1, i2⟩ | ⟨i1, i2, i3⟩
      all_goals (
        first | (have j3 : (10000 : Int) < c := by omega) | skip
        first | (have j2 : (10000 : Int) < b := by omega) | (have j2 : ¬ (10000 : Int) < b := by omega) | skip
        first | (have j1 : (10000 : Int) < a := by omega) | (have j1 : ¬ (10000 : Int) < a := by omega)
        go_wp2_with (go_at_call 47; refine (hck _).mono ?_; rintro e w' ⟨rfl, rfl⟩)
        all_goals (
          have hb : Blk _ gF 34 #[.int .i64 2, .int .i64 0] := (HF.out.set_ 0 (.int .i64 2)).set_ 1 (.int .i64 0)
          refine bodyPost_ret (v := fltV (2, 0)) (results_cell (a := ⟨gF, 0, none⟩) Tryd.results14 (by rfl) (hb.run_load (P := Tryd.prog) Tryd.underlying34 rfl sizeF)) rfl ?_
          exact ⟨by first | rfl | rw [hRR], below_set2 HB.out HGE.out _ _⟩))
    | false =>
      have hab : ¬ 10000 < a ∧ ¬ 10000 < b ∧ ¬ 10000 < c := by
        unfold longB at hl; simp only [decide_eq_false_iff_not] at hl; omega
      obtain ⟨i1, i2, i3⟩ := hab
      have j1 : ¬ (10000 : Int) < a := by omega
      have j2 : ¬ (10000 : Int) < b := by omega
      have j3 : ¬ (10000 : Int) < c := by omega
      have c4 : w1.cell? ⟨gS, 4, none⟩ = some (.slice EA m ce) := HS.out.cell 4
      have hlk := rlncheck_any (c := ce) HR.out h5
      obtain ⟨q, hq⟩ : ∃ q, chk es m = q := ⟨_, rfl⟩
      rw [hq] at hlk
      have HQ2 := Lib.hid hq
      have HLK := Lib.hid hlk
      obtain ⟨q1, q2⟩ := q
      clear hl hq hlk f0 f1 z0 z1 i1 i2 i3
      go_wp2_with (go_at_call 47; refine (hck _).mono ?_; rintro e w' ⟨rfl, rfl⟩)
      refine HLK.out.mono ?_
      rintro e w3 ⟨rfl, hb3⟩
      have F3 := Lib.hid (HF.out.below hb3 HF.out.lt)
      have S3 := Lib.hid (HS.out.below hb3 HS.out.lt)
      have B3 := Lib.hid (HB.out.trans (hb3.mono HB.out.size))
      clear hb3 c1 c2 c3 c4 hck
      unfold fltV
      dsimp only
      go_upto_region 6 with fail
      have X4 : Blk (w3.alloc (.cells #[.int .i64 q1, .int .i64 q2] 34)) w3.heap.size 34 #[.int .i64 q1, .int .i64 q2] := Blk.new _ _ _
      have S4 := S3.out.alloc (.cells #[.int .i64 q1, .int .i64 q2] 34)
      have F4 := F3.out.alloc (.cells #[.int .i64 q1, .int .i64 q2] 34)
      have B4 := B3.out.alloc B3.out.size (.cells #[.int .i64 q1, .int .i64 q2] 34)
      generalize World.alloc w3 _ = w4 at X4 S4 F4 B4 ⊢
      obtain ⟨gX, hgX⟩ : ∃ g, w3.heap.size = g := ⟨_, rfl⟩
      rw [hgX] at X4 ⊢
      have x0 : w4.cell? ⟨gX, 0, none⟩ = some (.int .i64 q1) := X4.cell 0
      have x1 : w4.cell? ⟨gX, 1, none⟩ = some (.int .i64 q2) := X4.cell 1
      have f0 : w4.cell? ⟨gF, 0, none⟩ = some (.int .i64 0) := F4.cell 0
      have f1 : w4.cell? ⟨gF, 1, none⟩ = some (.int .i64 0) := F4.cell 1
      have z0 : w4.frozen? ⟨gF, 0, none⟩ = false := F4.frozen 0
      have z1 : w4.frozen? ⟨gF, 1, none⟩ = false := F4.frozen 1
      have c5 : w4.cell? ⟨gS, 5, none⟩ = some (.int .i64 bud) := S4.cell 5
      have FF := Lib.hid F4
      have BB := Lib.hid B4
      clear X4 S4 F4 B4 hgX
      by_cases hq1 : q1 = 0
      · have hq2 : q2 = 0 := by
          have := chk_nz es m (by rw [HQ2.out]; exact hq1)
          rw [HQ2.out] at this
          exact (Prod.mk.inj this).2
        subst hq1 hq2
        by_cases hbud : bud < 0 ∨ 1099511627776 < bud
        · have hRR : RES = (9, 0) := by have := HC.out; unfold chkS at this; rw [HQ.out, HL.out, HQ2.out, if_neg (by decide), if_neg (by decide), if_neg (by simp), if_pos hbud] at this; exact this.symm
          rcases hbud with hbud | hbud
          all_goals (
            have hbb : (bud < 0 ∨ 1099511627776 < bud) := by omega
            go_wp2_with fail
            all_goals (
              have hb : Blk _ gF 34 #[.int .i64 9, .int .i64 0] := (FF.out.set_ 0 (.int .i64 9)).set_ 1 (.int .i64 0)
              refine bodyPost_ret (v := fltV (9, 0)) (results_cell (a := ⟨gF, 0, none⟩) Tryd.results14 (by rfl) (hb.run_load (P := Tryd.prog) Tryd.underlying34 rfl sizeF)) rfl ?_
              exact ⟨by first | rfl | rw [hRR], below_set2 BB.out HGE.out _ _⟩))
        · have hRR : RES = (0, 0) := by have := HC.out; unfold chkS at this; rw [HQ.out, HL.out, HQ2.out, if_neg (by decide), if_neg (by decide), if_neg (by simp), if_neg hbud] at this; exact this.symm
          have b1 : ¬ bud < 0 := fun h => hbud (Or.inl h)
          have b2 : ¬ 1099511627776 < bud := fun h => hbud (Or.inr h)
          clear hbud
          go_wp2_with fail
          all_goals (
            have hb : Blk _ gF 34 #[.int .i64 0, .int .i64 0] := (FF.out.set_ 0 (.int .i64 0)).set_ 1 (.int .i64 0)
            refine bodyPost_ret (v := fltV (0, 0)) (results_cell (a := ⟨gF, 0, none⟩) Tryd.results14 (by rfl) (hb.run_load (P := Tryd.prog) Tryd.underlying34 rfl sizeF)) rfl ?_
            exact ⟨by first | rfl | rw [hRR], below_set2 BB.out HGE.out _ _⟩)
      · have hRR : RES = (q1, q2) := by have := HC.out; unfold chkS at this; rw [HQ.out, HL.out, HQ2.out, if_neg (by decide), if_neg (by decide), if_pos hq1] at this; exact this.symm
        have e1 : (q1 == 0) = false := by rw [beq_eq_false_iff_ne]; exact hq1
        clear hq1
        go_wp2_with fail
        all_goals (
          have hb : Blk _ gF 34 #[.int .i64 q1, .int .i64 q2] := (FF.out.set_ 0 (.int .i64 q1)).set_ 1 (.int .i64 q2)
          refine bodyPost_ret (v := fltV (q1, q2)) (results_cell (a := ⟨gF, 0, none⟩) Tryd.results14 (by rfl) (hb.run_load (P := Tryd.prog) Tryd.underlying34 rfl sizeF)) rfl ?_
          exact ⟨by first | rfl | rw [hRR], below_set2 BB.out HGE.out _ _⟩)
  · have hRR : RES = (6, 0) := by have := HC.out; unfold chkS at this; rw [HQ.out, if_pos rfl] at this; exact this.symm
    go_wp2_with (go_at_call 47; refine (hck _).mono ?_; rintro e w' ⟨rfl, rfl⟩)
    have hb : Blk _ gF 34 #[.int .i64 6, .int .i64 0] := (HF.out.set_ 0 (.int .i64 6)).set_ 1 (.int .i64 0)
    refine bodyPost_ret (v := fltV (6, 0)) (results_cell (a := ⟨gF, 0, none⟩) Tryd.results14 (by rfl) (hb.run_load (P := Tryd.prog) Tryd.underlying34 rfl sizeF)) rfl ?_
    exact ⟨by first | rfl | rw [hRR], below_set2 HB.out HGE.out _ _⟩
end Go.Proofs.YtnhnphifhkkboaaDoor
namespace Go.Proofs.YtnhnphifhkkboaaDoor
open Go.RowKit Go.Shelf
set_option linter.unusedVariables false
set_option linter.unusedSimpArgs false
set_option maxRecDepth 100000
def ByB (l : List Int) : Prop := ∀ x ∈ l, 0 ≤ x ∧ x ≤ 255
/-- What holds of all that is told. -/
structure TdW (td : Td) : Prop where
  rom : ∀ x ∈ td.rom, 0 ≤ x.1 ∧ x.1 ≤ 16777215 ∧ ByB x.2 ∧ x.2.length ≤ 1000000
  vdc : ByB td.vdc
  vce : ByB td.vce
  port : ByB td.port
  edges : ∀ e ∈ td.edges, 0 ≤ e.a ∧ e.a ≤ 999999999999999999 ∧ 0 ≤ e.b ∧ e.b ≤ 3
  pg : ∀ n, td.pg = some n → 1 ≤ n ∧ n ≤ 128
  bg : ∀ n, td.bg = some n → 0 ≤ n ∧ n ≤ 999999999999999999
theorem tdW0 : TdW td0 := ⟨fun x h => by simp [td0] at h, fun x h => by simp [td0] at h, fun x h => by simp [td0] at h, fun x h => by simp [td0] at h, fun x h => by simp [td0] at h, fun n h => (by cases h), fun n h => (by cases h)⟩
theorem tdOk0 (p : Nat) : TdOk p td0 := ⟨Nat.zero_le _, Nat.zero_le _, Nat.zero_le _, Nat.zero_le _, Nat.zero_le _⟩
theorem TdOk.more {p q : Nat} {td : Td} (h : TdOk p td) (hq : p ≤ q) : TdOk q td := ⟨Nat.le_trans h.rom hq, Nat.le_trans h.vdc hq, Nat.le_trans h.vce hq, Nat.le_trans h.port hq, Nat.le_trans h.edges hq⟩
theorem bytesA_by : ∀ (l : List ByteArray) (ys : List Int), bytesA l = some ys → ByB ys
  | [], ys, h => by injection h with h; subst h; exact fun x hx => by simp at hx
  | y :: r, ys, h => by
    unfold bytesA at h
    split at h
    · rename_i hy
      cases hr : bytesA r with
      | none => rw [hr] at h; cases h
      | some zs =>
        rw [hr] at h
        simp only [Option.map_some, Option.some.injEq] at h
        subst h
        intro x hx
        rcases List.mem_cons.1 hx with rfl | hx
        · exact hx2_bd hy
        · exact bytesA_by r zs hr x hx
    · cases h
theorem byB_app {a b : List Int} (ha : ByB a) (hb : ByB b) : ByB (a ++ b) := fun x hx => (List.mem_append.1 hx).elim (ha x) (hb x)
theorem numP_bd (s : ByteArray) (h : (numP s).2 = 0) : 0 ≤ (numP s).1 ∧ (numP s).1 ≤ 999999999999999999 := by
  unfold numP at h ⊢
  split
  · rename_i h0; rw [if_pos h0] at h; simp at h
  · rename_i h0; rw [if_neg h0] at h
    split
    · rename_i h1; rw [if_pos h1] at h; simp at h
    · rename_i h1; rw [if_neg h1] at h
      split
      · rename_i h2; rw [if_pos h2] at h; simp at h
      · rename_i h2; rw [if_neg h2] at h
        split
        · rename_i h3
          have := decL_bd s.data.toList h3
          have hl : s.data.toList.length ≤ 18 := by rw [show s.data.toList.length = s.size from Array.length_toList]; omega
          have h4 := Nat.pow_le_pow_right (n := 10) (by decide) hl
          have h5 : (10 : Int) ^ s.data.toList.length ≤ 10 ^ 18 := by exact_mod_cast h4
          have h6 : (10 : Int) ^ 18 = 1000000000000000000 := by decide
          dsimp only
          omega
        · rename_i h3; rw [if_neg h3] at h; simp at h
theorem nameI_bd (y : ByteArray) (i : Nat) (h : nameI y = some i) : i ≤ 3 := by
  unfold nameI at h
  split at h
  · injection h with h; omega
  · split at h
    · injection h with h; omega
    · split at h
      · injection h with h; omega
      · split at h
        · injection h with h; omega
        · cases h
theorem hx6_bd {x : ByteArray} (h : hxB 6 x = true) : 0 ≤ (fhA x).1 ∧ (fhA x).1 ≤ 16777215 := by
  unfold hxB at h
  simp only [decide_eq_true_eq] at h
  have := fhA_bd' x
  rw [h.2] at this
  have h6 : (16 : Int) ^ 6 = 16777216 := by decide
  omega
/-- A line keeps what holds of all. -/
theorem take1_ok {p : Nat} {td : Td} (h : TdW td) (hp : TdOk p td) (hp1 : p ≤ 100000000000) (ws : List ByteArray) (hl : ws.length ≤ 1000000) (hz : (take1 ws td).1 = 0) : TdW (take1 ws td).2 ∧ TdOk (p + ws.length) (take1 ws td).2 := by
  have same : TdW td ∧ TdOk (p + ws.length) td := ⟨h, hp.more (by omega)⟩
  have num : ∀ (b : Bool) (r : List ByteArray), (numT b r td).1 = 0 → TdW (numT b r td).2 ∧ TdOk (p + ws.length) (numT b r td).2 := fun b r => by
    have M := hp.more (q := p + ws.length) (by omega)
    rcases r with _ | ⟨x, _ | ⟨y, r⟩⟩
    · exact fun e => absurd e (by simp [numT])
    · have e : numT b [x] td = if (numP x).2 ≠ 0 then ((3 : Int), td) else if b = true ∧ ((numP x).1 < 1 ∨ 128 < (numP x).1) then ((6 : Int), td) else if (if b then td.pg else td.bg).isSome then ((11 : Int), td) else ((0 : Int), if b then { td with pg := some (numP x).1 } else { td with bg := some (numP x).1 }) := rfl
      rw [e]
      by_cases hx : (numP x).2 ≠ 0
      · rw [if_pos hx]; exact fun e => absurd e (by simp)
      · rw [if_neg hx]
        have hb := numP_bd x (Classical.byContradiction hx)
        by_cases hb2 : b = true ∧ ((numP x).1 < 1 ∨ 128 < (numP x).1)
        · rw [if_pos hb2]; exact fun e => absurd e (by simp)
        · rw [if_neg hb2]
          by_cases hb3 : (if b then td.pg else td.bg).isSome = true
          · rw [if_pos hb3]; exact fun e => absurd e (by simp)
          · rw [if_neg hb3]
            intro _
            cases b with
            | true =>
              have : ¬ ((numP x).1 < 1 ∨ 128 < (numP x).1) := fun hh => hb2 ⟨rfl, hh⟩
              exact ⟨⟨h.rom, h.vdc, h.vce, h.port, h.edges, fun n hn => by injection hn with hn; omega, h.bg⟩, M.rom, M.vdc, M.vce, M.port, M.edges⟩
            | false =>
              exact ⟨⟨h.rom, h.vdc, h.vce, h.port, h.edges, h.pg, fun n hn => by injection hn with hn; omega⟩, M.rom, M.vdc, M.vce, M.port, M.edges⟩
    · exact fun e => absurd e (by simp [numT])
  have feed : ∀ (k : Nat) (r : List ByteArray), r.length ≤ ws.length → (feedT k r td).1 = 0 → TdW (feedT k r td).2 ∧ TdOk (p + ws.length) (feedT k r td).2 := fun k r hr => by
    unfold feedT
    split
    · rename_i ys hy
      intro _
      have b1 := bytesA_by _ _ hy
      have b2 := bytesA_len _ _ hy
      have M := hp.more (q := p + ws.length) (by omega)
      have l1 := hp.vdc; have l2 := hp.vce; have l3 := hp.port
      dsimp only
      split
      · exact ⟨⟨h.rom, byB_app h.vdc b1, h.vce, h.port, h.edges, h.pg, h.bg⟩, M.rom, by simp only [List.length_append]; omega, M.vce, M.port, M.edges⟩
      · split
        · exact ⟨⟨h.rom, h.vdc, byB_app h.vce b1, h.port, h.edges, h.pg, h.bg⟩, M.rom, M.vdc, by simp only [List.length_append]; omega, M.port, M.edges⟩
        · exact ⟨⟨h.rom, h.vdc, h.vce, byB_app h.port b1, h.edges, h.pg, h.bg⟩, M.rom, M.vdc, M.vce, by simp only [List.length_append]; omega, M.edges⟩
    · exact fun e => absurd e (by simp)
  have piece : ∀ (r : List ByteArray), r.length + 1 ≤ ws.length → (pieceT r td).1 = 0 → TdW (pieceT r td).2 ∧ TdOk (p + ws.length) (pieceT r td).2 := fun r hr hz => by
    have M := hp.more (q := p + ws.length) (by omega)
    have l1 := hp.rom
    cases r with
    | nil => simp [pieceT] at hz
    | cons x r =>
      cases hx : hxB 6 x with
      | false => rw [pieceT_no x r td hx] at hz; simp at hz
      | true =>
        by_cases hrn : r = []
        · rw [pieceT_bad x r td hx (Or.inl hrn)] at hz; simp at hz
        · cases hy : bytesA r with
          | none => rw [pieceT_bad x r td hx (Or.inr hy)] at hz; simp at hz
          | some ys =>
            rw [pieceT_ok x r td ys hx hrn hy]
            have b1 := bytesA_by _ _ hy
            have b2 := bytesA_len _ _ hy
            have b3 := hx6_bd hx
            refine ⟨⟨fun e he => ?_, h.vdc, h.vce, h.port, h.edges, h.pg, h.bg⟩, by simp only [List.length_append, List.length_singleton]; omega, M.vdc, M.vce, M.port, M.edges⟩
            rcases List.mem_append.1 he with he | he
            · exact h.rom e he
            · simp only [List.mem_singleton] at he; subst he
              exact ⟨b3.1, b3.2, b1, by show ys.length ≤ 1000000; simp only [List.length_cons] at hr; omega⟩
  have edge : ∀ (up : Bool) (r : List ByteArray), 1 ≤ ws.length → (edgeT up r td).1 = 0 → TdW (edgeT up r td).2 ∧ TdOk (p + ws.length) (edgeT up r td).2 := fun up r hr hz => by
    have M := hp.more (q := p + ws.length) (by omega)
    have l1 := hp.edges
    by_cases h2 : r.length = 2
    · obtain ⟨x, y, rfl⟩ : ∃ x y, r = [x, y] := by
        match r, h2 with
        | [x, y], _ => exact ⟨x, y, rfl⟩
      rw [edgeT_two] at hz ⊢
      split at hz
      · simp at hz
      · rename_i hx
        rw [if_neg hx]
        have hb := numP_bd x (Classical.byContradiction hx)
        cases hi : nameI y with
        | none => rw [hi] at hz; simp at hz
        | some i =>
          have := nameI_bd y i hi
          refine ⟨⟨h.rom, h.vdc, h.vce, h.port, fun e he => ?_, h.pg, h.bg⟩, M.rom, M.vdc, M.vce, M.port, by simp only [List.length_append, List.length_singleton]; omega⟩
          rcases List.mem_append.1 he with he | he
          · exact h.edges e he
          · simp only [List.mem_singleton] at he; subst he
            exact ⟨hb.1, hb.2, by show (0 : Int) ≤ (i : Int); omega, by show (i : Int) ≤ 3; omega⟩
    · rw [edgeT_len up r td h2] at hz; simp at hz
  cases ws with
  | nil => exact same
  | cons f r =>
    have hr : r.length ≤ (f :: r).length := by simp
    cases h_pages : eqB f [112, 97, 103, 101, 115] with
    | true =>
      simp only [take1, h_pages, if_true, Bool.false_eq_true, if_false] at hz ⊢
      exact num _ _ hz
    | false =>
      cases h_budget : eqB f [98, 117, 100, 103, 101, 116] with
      | true =>
        simp only [take1, h_pages, h_budget, if_true, Bool.false_eq_true, if_false] at hz ⊢
        exact num _ _ hz
      | false =>
        cases h_rom : eqB f [114, 111, 109] with
        | true =>
          simp only [take1, h_pages, h_budget, h_rom, if_true, Bool.false_eq_true, if_false] at hz ⊢
          exact piece _ (by simp) hz
        | false =>
          cases h_vdc : eqB f [118, 100, 99] with
          | true =>
            simp only [take1, h_pages, h_budget, h_rom, h_vdc, if_true, Bool.false_eq_true, if_false] at hz ⊢
            exact feed _ _ hr hz
          | false =>
            cases h_vce : eqB f [118, 99, 101] with
            | true =>
              simp only [take1, h_pages, h_budget, h_rom, h_vdc, h_vce, if_true, Bool.false_eq_true, if_false] at hz ⊢
              exact feed _ _ hr hz
            | false =>
              cases h_port : eqB f [112, 111, 114, 116] with
              | true =>
                simp only [take1, h_pages, h_budget, h_rom, h_vdc, h_vce, h_port, if_true, Bool.false_eq_true, if_false] at hz ⊢
                exact feed _ _ hr hz
              | false =>
                cases h_up : eqB f [117, 112] with
                | true =>
                  simp only [take1, h_pages, h_budget, h_rom, h_vdc, h_vce, h_port, h_up, if_true, Bool.false_eq_true, if_false] at hz ⊢
                  exact edge _ _ (by simp) hz
                | false =>
                  cases h_down : eqB f [100, 111, 119, 110] with
                  | true =>
                    simp only [take1, h_pages, h_budget, h_rom, h_vdc, h_vce, h_port, h_up, h_down, if_true, Bool.false_eq_true, if_false] at hz ⊢
                    exact edge _ _ (by simp) hz
                  | false =>
                    simp only [take1, h_pages, h_budget, h_rom, h_vdc, h_vce, h_port, h_up, h_down, Bool.false_eq_true, if_false] at hz
                    exact absurd hz (by decide)
/-- Bytes of a list, place by place. -/
def zL (l : List Int) (i : Nat) : Int := l.getD i 0
def eL (l : List Iib) (i : Nat) : Iib := l.getD i ⟨0, 0, false⟩
def pL (L : List (Int × List Int)) (i : Nat) : Pc := ⟨(L.getD i (0, [])).1, none, (L.getD i (0, [])).2.length, 0, zL (L.getD i (0, [])).2⟩
theorem bV_ints (l : List Int) : bV l = intsOf .u8 (zL l) l.length := by
  unfold bV intsOf zL
  apply List.ext_getElem
  · simp
  · intro i h1 h2
    simp only [List.length_map] at h1
    simp [List.getD, h1]
theorem u8_wf {x : Int} (h : 0 ≤ x ∧ x ≤ 255) : (Lit.int .u8 x).wf = true := WalkArith.wf_u8 (by omega)
theorem row_bytes {w : World} {B : Nat} {v : Value} {l : List Int} (h : w.ownsRow B 5 1 v l.length (bV l)) (hb : ByB l) :
    ∃ A cap, v = .slice A l.length cap ∧ l.length ≤ cap ∧ cap ≤ maxLen ∧ IRow w .u8 A l.length (zL l) ∧ Typed w A 5 ∧ (A = none → l.length = 0 ∧ cap = 0) ∧ (∀ ad, A = some ad → B ≤ ad.block) := by
  rw [bV_ints] at h
  refine own_row h (fun i hi => u8_wf ?_)
  have e : zL l i = l[i] := by simp [zL, List.getD, hi]
  rw [e]
  exact hb _ (List.getElem_mem hi)
theorem flatMap_at {α β : Type} (g : α → List β) (m : Nat) (hg : ∀ x, (g x).length = m) : ∀ (L : List α) (i j : Nat) (x : α), L[i]? = some x → j < m → (L.flatMap g)[i * m + j]? = (g x)[j]?
  | [], i, j, x, h, _ => by simp at h
  | y :: L, 0, j, x, h, hj => by
    simp at h; subst h
    rw [List.flatMap_cons, Nat.zero_mul, Nat.zero_add, List.getElem?_append_left (by rw [hg]; exact hj)]
  | y :: L, i + 1, j, x, h, hj => by
    rw [List.flatMap_cons, List.getElem?_append_right (by rw [hg, Nat.add_mul]; omega), hg, show (i + 1) * m + j - m = i * m + j by rw [Nat.add_mul]; omega]
    exact flatMap_at g m hg L i j x (by simpa using h) hj
/-- A row of the call's own whose elements have m cells each, read as a slice. -/
theorem own_list {α : Type} {w : World} {B m : Nat} {e : TypeId} {v : Value} (g : α → List Value) (hg : ∀ x, (g x).length = m) {L : List α} (h : w.ownsRow B e m v L.length (L.flatMap g)) :
    ∃ A cap, v = .slice A L.length cap ∧ L.length ≤ cap ∧ cap ≤ maxLen ∧ (∀ i x, L[i]? = some x → ∃ ad : Addr, A = some ad ∧ ad.block < w.heap.size ∧ ∀ j, j < m → w.cell? (ad.add (i * m + j)) = (g x)[j]?) ∧ Typed w A e ∧ (A = none → L.length = 0 ∧ cap = 0) ∧ (∀ ad, A = some ad → B ≤ ad.block) := by
  rcases h.2 with ⟨rfl, h0⟩ | ⟨q, cap, cur, rfl, hq, hh, hnc, hcm, hcs, hcur⟩
  · have : L = [] := List.length_eq_zero_iff.1 h0
    subst this
    exact ⟨none, 0, rfl, Nat.le_refl _, by unfold maxLen; omega, fun i x hx => by simp at hx, Typed.none, fun _ => ⟨rfl, rfl⟩, fun ad x => by cases x⟩
  · refine ⟨some ⟨q, 0, none⟩, cap, rfl, hnc, hcm, fun i x hx => ⟨_, rfl, ?_, fun j hj => ?_⟩, fun ad x => by cases x; exact ⟨cur, hh⟩, fun x => (by cases x), fun ad x => by cases x; exact hq⟩
    · exact (Array.getElem?_eq_some_iff.1 hh).1
    · have hf := flatMap_at g m hg L i j x hx hj
      have hgj : j < (g x).length := by rw [hg]; exact hj
      rw [List.getElem?_eq_getElem hgj] at hf ⊢
      exact h.cells rfl (i * m + j) _ hf
theorem row_edges {w : World} {B : Nat} {v : Value} {l : List Iib} (h : w.ownsRow B 31 3 v l.length (l.flatMap edC)) :
    ∃ A cap, v = .slice A l.length cap ∧ l.length ≤ cap ∧ cap ≤ maxLen ∧ ERow w A l.length (eL l) ∧ Typed w A 31 ∧ (A = none → l.length = 0 ∧ cap = 0) ∧ (∀ ad, A = some ad → B ≤ ad.block) := by
  obtain ⟨A, cap, h1, h2, h3, h4, h5, h6, h7⟩ := own_list edC (fun x => rfl) h
  refine ⟨A, cap, h1, h2, h3, fun i hi => ?_, h5, h6, h7⟩
  obtain ⟨ad, e1, e2, e3⟩ := h4 i l[i] (List.getElem?_eq_getElem hi)
  refine ⟨ad, e1, e2, fun j hj => ?_⟩
  rw [e3 j hj]
  have : eL l i = l[i] := by simp [eL, List.getD, hi]
  show (edC l[i])[j]? = some (iibV .i64 .u8 (eL l i) j)
  rw [this]
  match j, hj with
  | 0, _ => rfl
  | 1, _ => rfl
  | 2, _ => rfl
/-- What pieces lay depends on their places and bytes alone. -/
theorem laid_congr {ps qs : Nat → Pc} : ∀ (m i : Nat), (∀ k, k < m → (ps k).at_ = (qs k).at_ ∧ (ps k).n = (qs k).n ∧ (ps k).z = (qs k).z) → laid ps m i = laid qs m i
  | 0, i, _ => rfl
  | m + 1, i, h => by
    have ih := laid_congr m i (fun k hk => h k (by omega))
    obtain ⟨h1, h2, h3⟩ := h m (by omega)
    unfold laid
    rw [h1, h2, h3, ih]
theorem good_congr {S : Int} {p q : Pc} (h1 : p.at_ = q.at_) (h2 : p.n = q.n) : good S p ↔ good S q := by unfold good; rw [h1, h2]
end Go.Proofs.YtnhnphifhkkboaaDoor
