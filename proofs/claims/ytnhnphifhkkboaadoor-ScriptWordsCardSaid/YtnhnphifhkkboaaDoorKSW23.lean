/-
  Texts of these proofs, one behind the other: Lin1, Ln2.
-/
import Derived.Test.YtnhnphifhkkboaaDoorKSW16
import Derived.Test.YtnhnphifhkkboaaDoorKSW15
import Derived.Test.YtnhnphifhkkboaaDoorProg
import Derived.WalkKit
import Derived.WalkSpells
import Derived.WalkLawsBesides
import Derived.Lib.Hide
import Derived.BigQuiet
import Derived.Deep.QuietTactic
import Derived.Handy
import Derived.IntWalk
namespace Go.Proofs.YtnhnphifhkkboaaDoor
open Go.RowKit
set_option linter.unusedVariables false
set_option maxRecDepth 100000
abbrev ERow (w : World) (A : Option Addr) (n : Nat) (es : Nat → Iib) : Prop := FRow w 3 A n (fun i => iibV .i64 .u8 (es i))
def EWf (n : Nat) (es : Nat → Iib) : Prop := ∀ i, i < n → (Lit.int .i64 (es i).a).wf = true ∧ (Lit.int .u8 (es i).b).wf = true
theorem ERow.cells {w : World} {A : Option Addr} {n : Nat} {es : Nat → Iib} (R : ERow w A n es) (k : Nat) (hk : k < n) : ∃ ad : Addr, A = some ad ∧ ad.block < w.heap.size ∧ w.cell? (ad.add (k * 3)) = some (.int .i64 (es k).a) ∧
    w.cell? ⟨(ad.add (k * 3)).block, (ad.add (k * 3)).off + 1, none⟩ = some (.int .u8 (es k).b) ∧ w.cell? ⟨(ad.add (k * 3)).block, (ad.add (k * 3)).off + 2, none⟩ = some (.bool (es k).c) := by
  obtain ⟨ad, e, hl, h0, h1, h2⟩ := FRow.at_ R k hk
  exact ⟨ad, e, hl, h0 (by decide), h1 (by decide), h2 (by decide)⟩
theorem wrong_any (a b q : Int) (c : Bool) (w : World) :
    Calls Tryd.prog 91 #[.agg #[.int .i64 a, .int .u8 b, .bool c], .int .i64 q] w fun e w' => e = .returned (.int .i64 (wrongI a b q)) ∧ Below w.heap.size w w' := by
  obtain ⟨r, hr⟩ : ∃ r, wrongI a b q = r := ⟨_, rfl⟩
  rw [hr]
  have HR := Lib.hid hr
  clear hr
  by_cases h1 : 4 ≤ b
  · have e : r = 8 := by have := HR.out; unfold wrongI at this; rw [if_pos h1] at this; exact this.symm
    subst e
    go_enter Tryd.func91, Tryd.ntmps91
    go_wp2
    go_ret
    exact ⟨rfl, (Below.refl _ _).alloc (Nat.le_refl _) _⟩
  by_cases h2 : a < q
  · have e : r = 7 := by have := HR.out; unfold wrongI at this; rw [if_neg h1, if_pos (.inl h2)] at this; exact this.symm
    subst e
    go_enter Tryd.func91, Tryd.ntmps91
    go_wp2
    go_ret
    exact ⟨rfl, (Below.refl _ _).alloc (Nat.le_refl _) _⟩
  by_cases h3 : 26388279066624 < a
  · have e : r = 7 := by have := HR.out; unfold wrongI at this; rw [if_neg h1, if_pos (.inr h3)] at this; exact this.symm
    subst e
    go_enter Tryd.func91, Tryd.ntmps91
    go_wp2
    go_ret
    exact ⟨rfl, (Below.refl _ _).alloc (Nat.le_refl _) _⟩
  · have e : r = 0 := by have := HR.out; unfold wrongI at this; rw [if_neg h1, if_neg (by omega)] at this; exact this.symm
    subst e
    go_enter Tryd.func91, Tryd.ntmps91
    go_wp2
    go_ret
    exact ⟨rfl, (Below.refl _ _).alloc (Nat.le_refl _) _⟩
theorem sizeF : (Tryd.prog.info? 34).map (·.size) = some 2 := by kernel_rfl
def fltV (r : Int × Int) : Value := .agg #[.int .i64 r.1, .int .i64 r.2]
set_option maxHeartbeats 2000000 in
theorem lncheck_any {w : World} {A : Option Addr} {n c : Nat} {es : Nat → Iib} (R : ERow w A n es) (hc : n ≤ 9223372036854775807) :
    Calls Tryd.prog 46 #[.slice A n c] w fun e w' => e = .returned (fltV (chk es n)) ∧ Below w.heap.size w w' := by
  have HR := Lib.hid R
  clear R
  obtain ⟨r, hr⟩ : ∃ r, chk es n = r := ⟨_, rfl⟩
  rw [hr]
  have HC := Lib.hid hr
  clear hr
  by_cases hn : 1000 < n
  · have e : r = (2, 1000) := by have := HC.out; unfold chk at this; rw [if_pos hn] at this; exact this.symm
    subst e
    have i1 : (1000 : Int) < n := by omega
    go_enter Tryd.func46, Tryd.ntmps46
    go_wp2
    have hb : Blk (w.alloc (.cells #[.int .i64 2, .int .i64 1000] 34)) w.heap.size 34 #[.int .i64 2, .int .i64 1000] := Blk.new w _ _
    refine bodyPost_ret (v := fltV (2, 1000)) (results_cell (a := ⟨w.heap.size, 0, none⟩) Tryd.results46 (by rfl) (hb.run_load (P := Tryd.prog) Tryd.underlying34 rfl sizeF)) rfl ?_
    exact ⟨rfl, (Below.refl _ _).alloc (Nat.le_refl _) _⟩
  have i1 : ¬ (1000 : Int) < n := by omega
  have hc' : chkF es n = r := by have := HC.out; unfold chk at this; rw [if_neg hn] at this; exact this
  have HC' := Lib.hid hc'
  clear hc' HC
  go_enter Tryd.func46, Tryd.ntmps46
  go_wp2_with fail
  have hb0 : Blk (w.alloc (.cells #[.int .i64 0, .int .i64 0] 34)) w.heap.size 34 #[.int .i64 0, .int .i64 0] := Blk.new w _ _
  have hB0 : Below w.heap.size w (w.alloc (.cells #[.int .i64 0, .int .i64 0] 34)) := (Below.refl _ _).alloc (Nat.le_refl _) _
  generalize hgg : w.heap.size = g at *
  have HGG := Lib.hid hgg
  clear hgg
  go_loopw [3, 13] (fun q i wr => ∃ k : Nat, k ≤ n ∧ i = .int .i64 k ∧ q = .int .i64 (prevE es k) ∧ (∀ j, j < k → badE es j = 0) ∧ Blk wr g 34 #[.int .i64 0, .int .i64 0] ∧ Below g w wr) (fun _ i _ => n - (intOf i).toNat)
  case atStart => exact ⟨0, by omega, rfl, rfl, fun j hj => absurd hj (by omega), hb0, hB0⟩
  case round =>
    obtain ⟨k, hk, rfl, rfl, hok, hb, hB⟩ := hrel
    have zB := hB.size
    rw [HGG.out] at zB
    by_cases hlt : k < n
    · obtain ⟨ad, rfl, hl, c0, c1, c2⟩ := HR.out.cells k hlt
      rw [HGG.out] at hl
      have d0 := (hB.cell (p := ad.add (k * 3)) (by rw [block_of_add]; exact hl)).trans c0
      have d1 := (hB.cell (p := ⟨(ad.add (k * 3)).block, (ad.add (k * 3)).off + 1, none⟩) (by rw [block_of_add]; exact hl)).trans c1
      have d2 := (hB.cell (p := ⟨(ad.add (k * 3)).block, (ad.add (k * 3)).off + 2, none⟩) (by rw [block_of_add]; exact hl)).trans c2
      have hw := wrong_bad es k hok
      obtain ⟨x, hx⟩ : ∃ x, (es k).a = x := ⟨_, rfl⟩
      obtain ⟨y, hy⟩ : ∃ y, (es k).b = y := ⟨_, rfl⟩
      obtain ⟨z, hz⟩ : ∃ z, (es k).c = z := ⟨_, rfl⟩
      obtain ⟨p, hp⟩ : ∃ p, prevE es k = p := ⟨_, rfl⟩
      rw [hx] at d0 hw
      rw [hy] at d1 hw
      rw [hz] at d2
      rw [hp] at hw
      have hnext : prevE es (k + 1) = x := by unfold prevE; rw [if_neg (by omega)]; exact hx
      have HN := Lib.hid hnext
      have HP := Lib.hid hp
      have HW := Lib.hid hw
      have HB := Lib.hid hB
      have HBb := Lib.hid hb
      have HOK := Lib.hid hok
      clear hx hy hz hp hw hB hb hok hb0 hB0 hnext c0 c1 c2
      rw [HP.out]
      go_wp2_with fail
      refine (wrong_any _ _ _ _ _).mono ?_
      rw [HW.out]
      rintro e w2 ⟨rfl, h2⟩
      have hB2 := Lib.hid ((HB.out.alloc zB (.cells #[.int .i64 x, .int .u8 y, .bool z] 31)).trans (h2.mono (by simp; omega)))
      have hb2 := (HBb.out.alloc (.cells #[.int .i64 x, .int .u8 y, .bool z] 31)).below h2 (by have := HBb.out.lt; simp; omega)
      have hs2 : (wr.alloc (.cells #[.int .i64 x, .int .u8 y, .bool z] 31)).cell? ⟨wr.heap.size, 0, none⟩ = some (.int .i64 x) := (Blk.new wr _ _).cell 0
      have hs3 : w2.cell? ⟨wr.heap.size, 0, none⟩ = some (.int .i64 x) := (h2.cell (p := ⟨wr.heap.size, 0, none⟩) (by simp)).trans hs2
      clear h2 hs2
      obtain ⟨v, hv⟩ : ∃ v, badE es k = v := ⟨_, rfl⟩
      have HV := Lib.hid hv
      rw [hv]
      clear hv
      by_cases hz : v = 0
      · subst hz
        have HB2 := Lib.hid hb2
        clear hb2
        go_wp2_with fail
        go_roundw
        case rel =>
          refine ⟨k + 1, by omega, by go_num, by rw [HN.out], fun j hj => ?_, HB2.out, hB2.out⟩
          by_cases e : j = k
          · subst e; exact HV.out
          · exact HOK.out j (by omega)
        case measure => simp [intOf]; omega
      · have hne : (v != 0) = true := by simpa using hz
        have c20 : w2.cell? ⟨g, 0, none⟩ = some (.int .i64 0) := hb2.cell 0
        have c21 : w2.cell? ⟨g, 1, none⟩ = some (.int .i64 0) := hb2.cell 1
        have f20 := hb2.frozen 0
        have f21 := hb2.frozen 1
        have hl2 := (((hb2.set_ 0 (.int .i64 v)).set_ 1 (.int .i64 k))).run_load (P := Tryd.prog) Tryd.underlying34 rfl sizeF
        have HL := Lib.hid hl2
        clear hl2 hb2
        go_wp2_with fail
        have e : r = (v, (k : Int)) := by rw [← HC'.out, chkF_bad HOK.out (by rw [HV.out]; exact hz) hlt, HV.out]
        subst e
        refine bodyPost_ret (v := fltV (v, (k : Int))) (results_cell (a := ⟨g, 0, none⟩) Tryd.results46 (by rfl) HL.out) rfl ?_
        exact ⟨rfl, by rw [HGG.out]; exact (hB2.out.setCell (p := ⟨g, 0, none⟩) (Nat.le_refl _) _).setCell (p := ⟨g, 1, none⟩) (Nat.le_refl _) _⟩
    · obtain rfl : k = n := by omega
      have c20 : wr.cell? ⟨g, 0, none⟩ = some (.int .i64 0) := hb.cell 0
      have c21 : wr.cell? ⟨g, 1, none⟩ = some (.int .i64 0) := hb.cell 1
      have f20 := hb.frozen 0
      have f21 := hb.frozen 1
      have hl2 := (((hb.set_ 0 (.int .i64 0)).set_ 1 (.int .i64 0))).run_load (P := Tryd.prog) Tryd.underlying34 rfl sizeF
      have HL := Lib.hid hl2
      have HB := Lib.hid hB
      have HOK := Lib.hid hok
      clear hl2 hb hB hok hb0 hB0
      go_wp2_with fail
      have e : r = (0, 0) := by rw [← HC'.out, chkF_ok HOK.out]
      subst e
      refine bodyPost_ret (v := fltV (0, 0)) (results_cell (a := ⟨g, 0, none⟩) Tryd.results46 (by rfl) HL.out) rfl ?_
      exact ⟨rfl, by rw [HGG.out]; exact (HB.out.setCell (p := ⟨g, 0, none⟩) (Nat.le_refl _) _).setCell (p := ⟨g, 1, none⟩) (Nat.le_refl _) _⟩
end Go.Proofs.YtnhnphifhkkboaaDoor
namespace Go.Proofs.YtnhnphifhkkboaaDoor
open Go.RowKit
set_option linter.unusedVariables false
set_option linter.unusedSimpArgs false
set_option maxRecDepth 100000
theorem below_drewN {B : Nat} {a w : World} (h : Below B a w) (n : Nat) : Below B a (w.drewN n) := ⟨h.os, h.tape, h.output, h.size, h.block⟩
set_option maxHeartbeats 4000000 in
theorem rlncheck_any {w : World} {A : Option Addr} {n c : Nat} {es : Nat → Iib} (R : ERow w A n es) (hc : n ≤ 9223372036854775807) :
    Calls Tryd.prog 48 #[.slice A n c] w fun e w' => e = .returned (fltV (chk es n)) ∧ Below w.heap.size w w' := by
  have HR := Lib.hid R
  clear R
  obtain ⟨r, hr⟩ : ∃ r, chk es n = r := ⟨_, rfl⟩
  rw [hr]
  have HC := Lib.hid hr
  clear hr
  by_cases hn : 1000 < n
  · have e : r = (2, 1000) := by have := HC.out; unfold chk at this; rw [if_pos hn] at this; exact this.symm
    subst e
    have i1 : (1000 : Int) < n := by omega
    go_enter Tryd.func48, Tryd.ntmps48
    go_wp2
    have hb : Blk (w.alloc (.cells #[.int .i64 2, .int .i64 1000] 34)) w.heap.size 34 #[.int .i64 2, .int .i64 1000] := Blk.new w _ _
    refine bodyPost_ret (v := fltV (2, 1000)) (results_cell (a := ⟨w.heap.size, 0, none⟩) Tryd.results48 (by rfl) (hb.run_load (P := Tryd.prog) Tryd.underlying34 rfl sizeF)) rfl ?_
    exact ⟨rfl, (Below.refl _ _).alloc (Nat.le_refl _) _⟩
  have i1 : ¬ (1000 : Int) < n := by omega
  have hc' : chkF es n = r := by have := HC.out; unfold chk at this; rw [if_neg hn] at this; exact this
  have HC' := Lib.hid hc'
  clear hc' HC
  go_enter Tryd.func48, Tryd.ntmps48
  go_wp2_with fail
  have hb0 : Blk (w.alloc (.cells #[.int .i64 0, .int .i64 0] 34)) w.heap.size 34 #[.int .i64 0, .int .i64 0] := Blk.new w _ _
  have hB0 : Below w.heap.size w (w.alloc (.cells #[.int .i64 0, .int .i64 0] 34)) := (Below.refl _ _).alloc (Nat.le_refl _) _
  generalize hgg : w.heap.size = g at *
  have HGG := Lib.hid hgg
  clear hgg
  go_loopw [3] (fun i wr => ∃ k : Nat, k ≤ n ∧ i = .int .i64 k ∧ (∀ j, j < k → badE es j = 0) ∧ Blk wr g 34 #[.int .i64 0, .int .i64 0] ∧ Below g w wr) (fun i _ => n - (intOf i).toNat)
  case atStart => exact ⟨0, by omega, rfl, fun j hj => absurd hj (by omega), hb0, hB0⟩
  case round =>
    obtain ⟨k, hk, rfl, hok, hb, hB⟩ := hrel
    have zB := hB.size
    rw [HGG.out] at zB
    by_cases hlt : k < n
    · obtain ⟨ad, rfl, hl, c0, c1, c2⟩ := HR.out.cells k hlt
      rw [HGG.out] at hl
      have d0 := (hB.cell (p := ad.add (k * 3)) (by rw [block_of_add]; exact hl)).trans c0
      have d1 := (hB.cell (p := ⟨(ad.add (k * 3)).block, (ad.add (k * 3)).off + 1, none⟩) (by rw [block_of_add]; exact hl)).trans c1
      have hw : badE es k = badE es k := rfl
      unfold badE at hw
      have HP : Hid (0 < k → wr.cell? (ad.add ((k - 1) * 3)) = some (.int .i64 (es (k - 1)).a)) := Lib.hid fun h0 => by
        obtain ⟨ad2, e2, _, q0, _, _⟩ := HR.out.cells (k - 1) (by omega)
        cases e2
        exact (hB.cell (p := ad.add ((k - 1) * 3)) (by rw [block_of_add]; exact hl)).trans q0
      have HW : Hid (badE es k = if 3 < (es k).b then 8 else if (es k).a < 0 ∨ 26388279066624 < (es k).a ∨ (0 < k ∧ (es k).a < (es (k - 1)).a) then 7 else 0) := Lib.hid rfl
      obtain ⟨x, hx⟩ : ∃ x, (es k).a = x := ⟨_, rfl⟩
      obtain ⟨y, hy⟩ : ∃ y, (es k).b = y := ⟨_, rfl⟩
      obtain ⟨p, hp⟩ : ∃ p, (es (k - 1)).a = p := ⟨_, rfl⟩
      rw [hx, hy, hp] at HW
      rw [hp] at HP
      rw [hx] at d0
      rw [hy] at d1
      have HB := Lib.hid hB
      have HBb := Lib.hid hb
      have HOK := Lib.hid hok
      have i0 : (0 : Int) ≤ (k : Int) := by omega
      have i2 : (k : Int) < n := by omega
      have c20 : wr.cell? ⟨g, 0, none⟩ = some (.int .i64 0) := hb.cell 0
      have c21 : wr.cell? ⟨g, 1, none⟩ = some (.int .i64 0) := hb.cell 1
      have f20 := hb.frozen 0
      have f21 := hb.frozen 1
      clear hx hy hp hw hB hb hok hb0 hB0 c0 c1 c2
      by_cases h1 : 3 < y
      · go_wp2_with fail
        have e : r = (8, (k : Int)) := by
          have hv : badE es k = 8 := by rw [HW.out]; rw [if_pos h1]
          rw [← HC'.out, chkF_bad HOK.out (by rw [hv]; decide) hlt, hv]
        subst e
        refine bodyPost_ret (v := fltV (8, (k : Int))) (results_cell (a := ⟨g, 0, none⟩) Tryd.results48 (by rfl) ((((HBb.out).set_ 0 (.int .i64 8)).set_ 1 (.int .i64 k)).run_load (P := Tryd.prog) Tryd.underlying34 rfl sizeF)) rfl ?_
        exact ⟨rfl, by rw [HGG.out]; exact (HB.out.setCell (p := ⟨g, 0, none⟩) (Nat.le_refl _) _).setCell (p := ⟨g, 1, none⟩) (Nat.le_refl _) _⟩
      have n1 : ¬ 3 < y := h1
      by_cases h2 : x < 0
      · have t1 : decide (x < 0) = true := decide_eq_true h2
        go_wp2_with fail
        go_quiet (fail)
        go_wp2_with fail
        have e : r = (7, (k : Int)) := by
          have hv : badE es k = 7 := by rw [HW.out]; rw [if_neg (show ¬ 3 < y by omega), if_pos (.inl h2)]
          rw [← HC'.out, chkF_bad HOK.out (by rw [hv]; decide) hlt, hv]
        subst e
        refine bodyPost_ret (v := fltV (7, (k : Int))) (results_cell (a := ⟨g, 0, none⟩) Tryd.results48 (by rfl) ((((HBb.out.drewN _).set_ 0 (.int .i64 7)).set_ 1 (.int .i64 k)).run_load (P := Tryd.prog) Tryd.underlying34 rfl sizeF)) rfl ?_
        exact ⟨rfl, by rw [HGG.out]; exact ((below_drewN HB.out _).setCell (p := ⟨g, 0, none⟩) (Nat.le_refl _) _).setCell (p := ⟨g, 1, none⟩) (Nat.le_refl _) _⟩
      have t2 : decide (x < 0) = false := decide_eq_false h2
      by_cases h3 : 26388279066624 < x
      · have t1 : decide (26388279066624 < x) = true := decide_eq_true h3
        go_wp2_with fail
        go_quiet (fail)
        go_wp2_with fail
        have e : r = (7, (k : Int)) := by
          have hv : badE es k = 7 := by rw [HW.out]; rw [if_neg (show ¬ 3 < y by omega), if_pos (.inr (.inl h3))]
          rw [← HC'.out, chkF_bad HOK.out (by rw [hv]; decide) hlt, hv]
        subst e
        refine bodyPost_ret (v := fltV (7, (k : Int))) (results_cell (a := ⟨g, 0, none⟩) Tryd.results48 (by rfl) ((((HBb.out.drewN _).set_ 0 (.int .i64 7)).set_ 1 (.int .i64 k)).run_load (P := Tryd.prog) Tryd.underlying34 rfl sizeF)) rfl ?_
        exact ⟨rfl, by rw [HGG.out]; exact ((below_drewN HB.out _).setCell (p := ⟨g, 0, none⟩) (Nat.le_refl _) _).setCell (p := ⟨g, 1, none⟩) (Nat.le_refl _) _⟩
      have t3 : decide (26388279066624 < x) = false := decide_eq_false h3
      by_cases h4 : 0 < k
      · have hp := HP.out h4
        have t4 : decide ((0 : Int) < (k : Int)) = true := decide_eq_true (by omega)
        have t4' : decide (0 < k) = true := decide_eq_true h4
        have j1 : (1 : Int) ≤ (k : Int) := by omega
        have j0 : (0 : Int) ≤ (k : Int) - 1 := by omega
        have j2 : (k : Int) - 1 < n := by omega
        by_cases h5 : x < p
        · have t5 : decide (x < p) = true := decide_eq_true h5
          have w2 : ((k : Int) - 1).toNat = k - 1 := by omega
          have w1 : IntKind.i64.wrap ((k : Int) - 1) = (k : Int) - 1 := IntWalk.i64_in _ (by omega)
          go_wp2_with fail
          go_quiet (fail)
          go_wp2_with fail
          have e : r = (7, (k : Int)) := by
            have hv : badE es k = 7 := by rw [HW.out]; rw [if_neg (show ¬ 3 < y by omega), if_pos (.inr (.inr ⟨h4, h5⟩))]
            rw [← HC'.out, chkF_bad HOK.out (by rw [hv]; decide) hlt, hv]
          subst e
          refine bodyPost_ret (v := fltV (7, (k : Int))) (results_cell (a := ⟨g, 0, none⟩) Tryd.results48 (by rfl) ((((HBb.out.drewN _).set_ 0 (.int .i64 7)).set_ 1 (.int .i64 k)).run_load (P := Tryd.prog) Tryd.underlying34 rfl sizeF)) rfl ?_
          exact ⟨rfl, by rw [HGG.out]; exact ((below_drewN HB.out _).setCell (p := ⟨g, 0, none⟩) (Nat.le_refl _) _).setCell (p := ⟨g, 1, none⟩) (Nat.le_refl _) _⟩
        · have t5 : decide (x < p) = false := decide_eq_false h5
          have w2 : ((k : Int) - 1).toNat = k - 1 := by omega
          have w1 : IntKind.i64.wrap ((k : Int) - 1) = (k : Int) - 1 := IntWalk.i64_in _ (by omega)
          go_wp2_with fail
          go_quiet (fail)
          clear w1 w2
          go_wp2_with fail
          go_roundw
          case rel =>
            refine ⟨k + 1, by omega, by go_num, fun j hj => ?_, HBb.out.drewN _, below_drewN HB.out _⟩
            by_cases e : j = k
            · subst e; rw [HW.out]; rw [if_neg (show ¬ 3 < y by omega), if_neg (by omega)]
            · exact HOK.out j (by omega)
          case measure => simp [intOf]; omega
      · have t4 : decide ((0 : Int) < (k : Int)) = false := decide_eq_false (by omega)
        have t4' : decide (0 < k) = false := decide_eq_false h4
        go_wp2_with fail
        go_quiet (fail)
        go_wp2_with fail
        go_roundw
        case rel =>
          refine ⟨k + 1, by omega, by go_num, fun j hj => ?_, HBb.out.drewN _, below_drewN HB.out _⟩
          by_cases e : j = k
          · subst e; rw [HW.out]; rw [if_neg (show ¬ 3 < y by omega), if_neg (by omega)]
          · exact HOK.out j (by omega)
        case measure => simp [intOf]; omega
    · obtain rfl : k = n := by omega
      have c20 : wr.cell? ⟨g, 0, none⟩ = some (.int .i64 0) := hb.cell 0
      have c21 : wr.cell? ⟨g, 1, none⟩ = some (.int .i64 0) := hb.cell 1
      have f20 := hb.frozen 0
      have f21 := hb.frozen 1
      have hl2 := (((hb.set_ 0 (.int .i64 0)).set_ 1 (.int .i64 0))).run_load (P := Tryd.prog) Tryd.underlying34 rfl sizeF
      have HL := Lib.hid hl2
      have HB := Lib.hid hB
      have HOK := Lib.hid hok
      clear hl2 hb hB hok hb0 hB0
      go_wp2_with fail
      have e : r = (0, 0) := by rw [← HC'.out, chkF_ok HOK.out]
      subst e
      refine bodyPost_ret (v := fltV (0, 0)) (results_cell (a := ⟨g, 0, none⟩) Tryd.results48 (by rfl) HL.out) rfl ?_
      exact ⟨rfl, by rw [HGG.out]; exact (HB.out.setCell (p := ⟨g, 0, none⟩) (Nat.le_refl _) _).setCell (p := ⟨g, 1, none⟩) (Nat.le_refl _) _⟩
end Go.Proofs.YtnhnphifhkkboaaDoor
