/-
  Logic: a chain of two letters; what must be whatever is asked.
-/
import Derived.Test.YtkmcfmflihkdjaaLgc1
import Derived.Test.YtkmcfmflihkdjaaG8
import Derived.Test.YtkmcfmflihkdjaaG18
import Derived.Handy
import Derived.Deep.RegionWith
namespace Go.Proofs.Ytkmcfmflihkdjaa
open Go.RowKit
set_option linter.unusedVariables false
set_option linter.unusedSimpArgs false
set_option maxRecDepth 100000
def lkV (v p : Int) : Value := .agg #[.int .u8 v, .int .u8 p]
theorem linked_any (v p : Int) (w : World) : Calls Try.prog 83 #[.int .u8 v, .int .u8 p] w fun e w' => e = .returned (lkV v p) ∧ Below w.heap.size w w' := by
  go_enter Try.func83, Try.ntmps83
  go_wp2
  go_returns
  exact ⟨rfl, by go_grown⟩
set_option maxHeartbeats 4000000 in
theorem lkasl_any (v p : Int) (w : World) : Calls Try.prog 76 #[lkV v p] w fun e w' => e = .returned (lkV (slV v false) (lgR (flS p 1 (bitB v 7)) (slV v false))) ∧ Below w.heap.size w w' := by
  unfold lkV
  obtain ⟨x, hx⟩ : ∃ x, slV v false = x := ⟨_, rfl⟩
  obtain ⟨y, hy⟩ : ∃ y, lgR (flS p 1 (bitB v 7)) (slV v false) = y := ⟨_, rfl⟩
  have HX := Lib.hid hx
  have HY := Lib.hid hy
  rw [hy, hx]
  clear hx hy
  have h0 := Blk.new (w.alloc (.cells #[.int .u8 v, .int .u8 p] 70)) 70 #[.int .u8 0, .int .u8 0]
  have hB0 : Below w.heap.size w ((w.alloc (.cells #[.int .u8 v, .int .u8 p] 70)).alloc (.cells #[.int .u8 0, .int .u8 0] 70)) := ((Below.refl _ _).alloc (Nat.le_refl _) _).alloc (by simp) _
  rw [show (w.alloc (.cells #[.int .u8 v, .int .u8 p] 70)).heap.size = w.heap.size + 1 by simp] at h0
  have HH := Lib.hid h0
  have HB := Lib.hid hB0
  clear h0 hB0
  go_enter Try.func76, Try.ntmps76
  go_wp2_with fail
  refine (lasl_any _ _ _).mono ?_
  rw [HY.out, HX.out]
  rintro e w1 ⟨rfl, b1⟩
  have H1 := Lib.hid (HH.out.below b1 HH.out.lt)
  have HB1 := Lib.hid (HB.out.trans (b1.mono HB.out.size))
  clear b1
  go_wp2_with fail
  refine (linked_any _ _ _).mono ?_
  rintro e w2 ⟨rfl, b2⟩
  unfold lkV
  have hb := H1.out.below b2 H1.out.lt
  have c0 : w2.cell? ⟨w.heap.size + 1, 0, none⟩ = some (.int .u8 0) := hb.cell 0
  have c1 : w2.cell? ⟨w.heap.size + 1, 1, none⟩ = some (.int .u8 0) := hb.cell 1
  have f0 : w2.frozen? ⟨w.heap.size + 1, 0, none⟩ = false := hb.frozen 0
  have f1 : w2.frozen? ⟨w.heap.size + 1, 1, none⟩ = false := hb.frozen 1
  have HB2 := Lib.hid (HB1.out.trans (b2.mono HB1.out.size))
  have H2 := Lib.hid hb
  clear b2 hb
  go_wp2_with fail
  try simp only [Exit.inBlock, Exit.then]
  refine bodyPost_ret (v := .agg #[.int .u8 x, .int .u8 y]) (results_cell (a := ⟨w.heap.size + 1, 0, none⟩) Try.results76 (by rfl) (((H2.out.set_ 0 (.int .u8 x)).set_ 1 (.int .u8 y)).run_load (P := Try.prog) Try.underlying70 rfl (by kernel_rfl))) rfl ?_
  exact ⟨rfl, (HB2.out.setCell (p := ⟨w.heap.size + 1, 0, none⟩) (by show w.heap.size ≤ _; simp) _).setCell (p := ⟨w.heap.size + 1, 1, none⟩) (by show w.heap.size ≤ _; simp) _⟩
theorem linc_b (v p : Int) (w : World) : Calls Try.prog 41 #[.int .u8 v, .int .u8 p] w fun e w' => e = .returned (.tuple #[.int .u8 ((v + 1) % 256), .int .u8 (lgR p ((v + 1) % 256))]) ∧ Below w.heap.size w w' :=
  (linc_any v p w).mono fun e w' h => ⟨h.1, h.2 ▸ Below.refl _ _⟩
set_option maxHeartbeats 4000000 in
theorem lkinc_any (v p : Int) (w : World) : Calls Try.prog 80 #[lkV v p] w fun e w' => e = .returned (lkV ((v + 1) % 256) (lgR p ((v + 1) % 256))) ∧ Below w.heap.size w w' := by
  unfold lkV
  obtain ⟨x, hx⟩ : ∃ x, (v + 1) % 256 = x := ⟨_, rfl⟩
  obtain ⟨y, hy⟩ : ∃ y, lgR p ((v + 1) % 256) = y := ⟨_, rfl⟩
  have HX := Lib.hid hx
  have HY := Lib.hid hy
  rw [hy, hx]
  clear hx hy
  have h0 := Blk.new (w.alloc (.cells #[.int .u8 v, .int .u8 p] 70)) 70 #[.int .u8 0, .int .u8 0]
  have hB0 : Below w.heap.size w ((w.alloc (.cells #[.int .u8 v, .int .u8 p] 70)).alloc (.cells #[.int .u8 0, .int .u8 0] 70)) := ((Below.refl _ _).alloc (Nat.le_refl _) _).alloc (by simp) _
  rw [show (w.alloc (.cells #[.int .u8 v, .int .u8 p] 70)).heap.size = w.heap.size + 1 by simp] at h0
  have HH := Lib.hid h0
  have HB := Lib.hid hB0
  clear h0 hB0
  go_enter Try.func80, Try.ntmps80
  go_wp2_with fail
  refine (linc_b _ _ _).mono ?_
  rw [HY.out, HX.out]
  rintro e w1 ⟨rfl, b1⟩
  have H1 := Lib.hid (HH.out.below b1 HH.out.lt)
  have HB1 := Lib.hid (HB.out.trans (b1.mono HB.out.size))
  clear b1
  go_wp2_with fail
  refine (linked_any _ _ _).mono ?_
  rintro e w2 ⟨rfl, b2⟩
  unfold lkV
  have hb := H1.out.below b2 H1.out.lt
  have c0 : w2.cell? ⟨w.heap.size + 1, 0, none⟩ = some (.int .u8 0) := hb.cell 0
  have c1 : w2.cell? ⟨w.heap.size + 1, 1, none⟩ = some (.int .u8 0) := hb.cell 1
  have f0 : w2.frozen? ⟨w.heap.size + 1, 0, none⟩ = false := hb.frozen 0
  have f1 : w2.frozen? ⟨w.heap.size + 1, 1, none⟩ = false := hb.frozen 1
  have HB2 := Lib.hid (HB1.out.trans (b2.mono HB1.out.size))
  have H2 := Lib.hid hb
  clear b2 hb
  go_wp2_with fail
  try simp only [Exit.inBlock, Exit.then]
  refine bodyPost_ret (v := .agg #[.int .u8 x, .int .u8 y]) (results_cell (a := ⟨w.heap.size + 1, 0, none⟩) Try.results80 (by rfl) (((H2.out.set_ 0 (.int .u8 x)).set_ 1 (.int .u8 y)).run_load (P := Try.prog) Try.underlying70 rfl (by kernel_rfl))) rfl ?_
  exact ⟨rfl, (HB2.out.setCell (p := ⟨w.heap.size + 1, 0, none⟩) (by show w.heap.size ≤ _; simp) _).setCell (p := ⟨w.heap.size + 1, 1, none⟩) (by show w.heap.size ≤ _; simp) _⟩
theorem next_asl (v p : Int) (w : World) : Calls Try.prog 71 #[lkV v p, .int .u8 65] w fun e w' => e = .returned (.func (.func 76) #[lkV v p] #[]) ∧ Below w.heap.size w w' := by
  have hmf : ∀ (fn : Fn) (first cap : Array Value) (w : World), (Instr.makeFunc fn first cap).run Try.prog w = .ok (.func fn first cap) w := fun _ _ _ _ => rfl
  unfold lkV
  go_enter Try.func71, Try.ntmps71
  go_wp2
  go_ret
  exact ⟨rfl, (Below.refl _ _).alloc (Nat.le_refl _) _⟩
theorem next_inc (v p : Int) (w : World) : Calls Try.prog 71 #[lkV v p, .int .u8 73] w fun e w' => e = .returned (.func (.func 80) #[lkV v p] #[]) ∧ Below w.heap.size w w' := by
  have hmf : ∀ (fn : Fn) (first cap : Array Value) (w : World), (Instr.makeFunc fn first cap).run Try.prog w = .ok (.func fn first cap) w := fun _ _ _ _ => rfl
  unfold lkV
  go_enter Try.func71, Try.ntmps71
  go_wp2
  go_ret
  exact ⟨rfl, (Below.refl _ _).alloc (Nat.le_refl _) _⟩
/-- Results of which the third lies in memory. -/
theorem results_tmp2_cell {P : Program} {fn : Func} {s u r : Tmp} {t : TypeId} {v1 v2 v : Value} {tmps : Array Value} {a : Addr} {w : World} (h : fn.results = #[.tmp u, .tmp r, .cell s t]) (hu : tmps[u]?.getD undef = v1) (hr : tmps[r]?.getD undef = v2) (ha : tmps[s]?.getD undef = .pointer (some a)) (hl : (loadVar t a).run P w = .ok v w) : (results fn tmps).run P w = .ok (.tuple #[v1, v2, v]) w := by
  simp [results, h, ha, asAddr, hl, hu, hr]
set_option maxHeartbeats 8000000 in
theorem chain_AI (w : World) : Calls Try.prog 58 #[.string ⟨#[65, 73]⟩, .int .u8 1, .int .u8 0] w fun e w' => e = .returned (.tuple #[.int .u8 3, .int .u8 0, .agg #[.int .i64 0, .int .i64 0]]) ∧ Below w.heap.size w w' := by
  go_enter Try.func58, Try.ntmps58
  go_wp2_with fail
  refine wp_loop_rounds 3 ?_
  rw [rounds_succ]
  have h0 := Blk.new w 57 #[.int .i64 0, .int .i64 0]
  have h1 := Blk.new (w.alloc (.cells #[.int .i64 0, .int .i64 0] 57)) 70 #[.int .u8 1, .int .u8 0]
  have h2 := h0.alloc (.cells #[.int .u8 1, .int .u8 0] 70)
  have h3 : Below w.heap.size w ((w.alloc (.cells #[.int .i64 0, .int .i64 0] 57)).alloc (.cells #[.int .u8 1, .int .u8 0] 70)) := ((Below.refl _ _).alloc (Nat.le_refl _) _).alloc (by simp) _
  rw [show (w.alloc (.cells #[.int .i64 0, .int .i64 0] 57)).heap.size = w.heap.size + 1 by simp] at h1
  have HL := Lib.hid h1
  have HF := Lib.hid h2
  have HB := Lib.hid h3
  clear h0 h1 h2 h3
  go_wp2_with fail
  generalize World.alloc _ _ = w1 at HL HF HB ⊢
  obtain ⟨s1, hs1⟩ : ∃ s1, w.heap.size + 1 = s1 := ⟨_, rfl⟩
  obtain ⟨s, hs⟩ : ∃ s, w.heap.size = s := ⟨_, rfl⟩
  have NE : Hid (s ≠ s1) := Lib.hid (by omega)
  have LE : Hid (w.heap.size ≤ s1) := Lib.hid (by omega)
  have LE2 : Hid (w.heap.size ≤ s) := Lib.hid (by omega)
  rw [hs1] at HL ⊢
  rw [hs] at HF ⊢
  clear hs hs1
  have c0 : w1.cell? ⟨s1, 0, none⟩ = some (.int .u8 1) := HL.out.cell 0
  have c1 : w1.cell? ⟨s1, 1, none⟩ = some (.int .u8 0) := HL.out.cell 1
  go_region_with (go_at_call 71; refine (next_asl 1 0 _).mono ?_; rintro e w2 ⟨rfl, b2⟩)
  all_goals
    have HL2 : Hid (Blk w2 s1 70 #[.int .u8 1, .int .u8 0]) := Lib.hid (Blk.below HL.out.drew_ b2 HL.out.lt)
    have HF2 : Hid (Blk w2 s 57 #[.int .i64 0, .int .i64 0]) := Lib.hid (Blk.below HF.out.drew_ b2 HF.out.lt)
    have HB2 := Lib.hid (HB.out.drew.trans (b2.mono HB.out.size))
    clear c0 c1 b2 HL HF HB
    have hq : ∀ W : World, (binOp .eql 71 (.func (.func 76) #[lkV 1 0] #[]) .nilFunc).run Try.prog W = .ok (.bool false) W := fun _ => by kernel_rfl
    go_wp2_with fail
    refine (lkasl_any 1 0 _).mono ?_
    rw [show slV 1 false = 2 by decide +kernel, show lgR (flS 0 1 (bitB 1 7)) 2 = 0 by decide +kernel]
    rintro e w3 ⟨rfl, b3⟩
    have HL3 := Lib.hid (HL2.out.below b3 HL2.out.lt)
    have HF3 := Lib.hid (HF2.out.below b3 HF2.out.lt)
    have HB3 := Lib.hid (HB2.out.trans (b3.mono HB2.out.size))
    have c0 : w3.cell? ⟨s1, 0, none⟩ = some (.int .u8 1) := HL3.out.cell 0
    have c1 : w3.cell? ⟨s1, 1, none⟩ = some (.int .u8 0) := HL3.out.cell 1
    have f0 : w3.frozen? ⟨s1, 0, none⟩ = false := HL3.out.frozen 0
    have f1 : w3.frozen? ⟨s1, 1, none⟩ = false := HL3.out.frozen 1
    clear b3 HL2 HF2 HB2
    unfold lkV
    go_wp2_with fail
    rw [rounds_succ]
    have HL : Hid (Blk ((w3.setCell ⟨s1, 0, none⟩ (.int .u8 2)).setCell ⟨s1, 1, none⟩ (.int .u8 0)) s1 70 #[.int .u8 2, .int .u8 0]) := Lib.hid ((HL3.out.set_ 0 (.int .u8 2)).set_ 1 (.int .u8 0))
    have HF : Hid (Blk ((w3.setCell ⟨s1, 0, none⟩ (.int .u8 2)).setCell ⟨s1, 1, none⟩ (.int .u8 0)) s 57 #[.int .i64 0, .int .i64 0]) := Lib.hid ((HF3.out.far (p := ⟨s1, 0, none⟩) (by exact NE.out) _).far (p := ⟨s1, 1, none⟩) (by exact NE.out) _)
    have HB : Hid (Below w.heap.size w ((w3.setCell ⟨s1, 0, none⟩ (.int .u8 2)).setCell ⟨s1, 1, none⟩ (.int .u8 0))) := Lib.hid ((HB3.out.setCell (p := ⟨s1, 0, none⟩) (by exact LE.out) _).setCell (p := ⟨s1, 1, none⟩) (by exact LE.out) _)
    clear c0 c1 f0 f1 HL3 HF3 HB3
    generalize World.setCell _ _ _ = w4 at HL HF HB ⊢
    go_wp2_with fail
    have c0 : w4.cell? ⟨s1, 0, none⟩ = some (.int .u8 2) := HL.out.cell 0
    have c1 : w4.cell? ⟨s1, 1, none⟩ = some (.int .u8 0) := HL.out.cell 1
    go_region_with (go_at_call 71; refine (next_inc 2 0 _).mono ?_; rintro e w5 ⟨rfl, b2⟩)
    all_goals
      have HL2 : Hid (Blk w5 s1 70 #[.int .u8 2, .int .u8 0]) := Lib.hid (Blk.below HL.out.drew_ b2 HL.out.lt)
      have HF2 : Hid (Blk w5 s 57 #[.int .i64 0, .int .i64 0]) := Lib.hid (Blk.below HF.out.drew_ b2 HF.out.lt)
      have HB2 := Lib.hid (HB.out.drew.trans (b2.mono HB.out.size))
      clear c0 c1 b2 HL HF HB
      have hq : ∀ W : World, (binOp .eql 71 (.func (.func 80) #[lkV 2 0] #[]) .nilFunc).run Try.prog W = .ok (.bool false) W := fun _ => by kernel_rfl
      go_wp2_with fail
      refine (lkinc_any 2 0 _).mono ?_
      rw [show ((2 : Int) + 1) % 256 = 3 by decide, show lgR 0 3 = 0 by decide +kernel]
      rintro e w6 ⟨rfl, b3⟩
      have HL3 := Lib.hid (HL2.out.below b3 HL2.out.lt)
      have HF3 := Lib.hid (HF2.out.below b3 HF2.out.lt)
      have HB3 := Lib.hid (HB2.out.trans (b3.mono HB2.out.size))
      have c0 : w6.cell? ⟨s1, 0, none⟩ = some (.int .u8 2) := HL3.out.cell 0
      have c1 : w6.cell? ⟨s1, 1, none⟩ = some (.int .u8 0) := HL3.out.cell 1
      have f0 : w6.frozen? ⟨s1, 0, none⟩ = false := HL3.out.frozen 0
      have f1 : w6.frozen? ⟨s1, 1, none⟩ = false := HL3.out.frozen 1
      clear b3 HL2 HF2 HB2
      unfold lkV
      go_wp2_with fail
      rw [rounds_succ]
      have HL : Hid (Blk ((w6.setCell ⟨s1, 0, none⟩ (.int .u8 3)).setCell ⟨s1, 1, none⟩ (.int .u8 0)) s1 70 #[.int .u8 3, .int .u8 0]) := Lib.hid ((HL3.out.set_ 0 (.int .u8 3)).set_ 1 (.int .u8 0))
      have HF : Hid (Blk ((w6.setCell ⟨s1, 0, none⟩ (.int .u8 3)).setCell ⟨s1, 1, none⟩ (.int .u8 0)) s 57 #[.int .i64 0, .int .i64 0]) := Lib.hid ((HF3.out.far (p := ⟨s1, 0, none⟩) (by exact NE.out) _).far (p := ⟨s1, 1, none⟩) (by exact NE.out) _)
      have HB : Hid (Below w.heap.size w ((w6.setCell ⟨s1, 0, none⟩ (.int .u8 3)).setCell ⟨s1, 1, none⟩ (.int .u8 0))) := Lib.hid ((HB3.out.setCell (p := ⟨s1, 0, none⟩) (by exact LE.out) _).setCell (p := ⟨s1, 1, none⟩) (by exact LE.out) _)
      clear c0 c1 f0 f1 HL3 HF3 HB3
      generalize World.setCell _ _ _ = w7 at HL HF HB ⊢
      go_wp2_with fail
      have c0 : w7.cell? ⟨s1, 0, none⟩ = some (.int .u8 3) := HL.out.cell 0
      have c1 : w7.cell? ⟨s1, 1, none⟩ = some (.int .u8 0) := HL.out.cell 1
      have d0 : w7.cell? ⟨s, 0, none⟩ = some (.int .i64 0) := HF.out.cell 0
      have d1 : w7.cell? ⟨s, 1, none⟩ = some (.int .i64 0) := HF.out.cell 1
      have f0 : w7.frozen? ⟨s, 0, none⟩ = false := HF.out.frozen 0
      have f1 : w7.frozen? ⟨s, 1, none⟩ = false := HF.out.frozen 1
      go_region
      all_goals
        go_wp2_with fail
        try simp only [Exit.inBlock, Exit.then]
        refine bodyPost_ret (v := .tuple #[.int .u8 3, .int .u8 0, .agg #[.int .i64 0, .int .i64 0]]) (results_tmp2_cell (a := ⟨s, 0, none⟩) Try.results58 (by rfl) (by rfl) (by rfl) (((HF.out.drew_.set_ 0 (.int .i64 0)).set_ 1 (.int .i64 0)).run_load (P := Try.prog) Try.underlying57 rfl (by kernel_rfl))) rfl ?_
        exact ⟨rfl, (HB.out.drew.setCell (p := ⟨s, 0, none⟩) (by exact LE2.out) _).setCell (p := ⟨s, 1, none⟩) (by exact LE2.out) _⟩
end Go.Proofs.Ytkmcfmflihkdjaa
