/-
  Pages: Clone, Get.
-/
import Derived.Test.YtccimkmlbcgekaaDoorMmu3
import Derived.Test.YtccimkmlbcgekaaDoorG14
namespace Go.Proofs.YtccimkmlbcgekaaDoor
open Go.RowKit Go.Shelf
set_option linter.unusedVariables false
set_option linter.unusedSimpArgs false
set_option maxRecDepth 100000
attribute [local go_sem] Oper.semAt_some
section
variable {w w' : World} {g : Nat} {z : Nat → Int} {l : Int}
set_option maxHeartbeats 4000000 in
theorem mclone_any (h : MM w g z l) : Calls Tryd.prog 11 #[.pointer (some ⟨g, 0, none⟩)] w (MmN z l w) := by
  have c0 : w.cell? ⟨g, 0, none⟩ = some (.int .u8 (z 0)) := h.cell 0
  have c1 : w.cell? ⟨g, 1, none⟩ = some (.int .u8 (z 1)) := h.cell 1
  have c2 : w.cell? ⟨g, 2, none⟩ = some (.int .u8 (z 2)) := h.cell 2
  have c3 : w.cell? ⟨g, 3, none⟩ = some (.int .u8 (z 3)) := h.cell 3
  have c4 : w.cell? ⟨g, 4, none⟩ = some (.int .u8 (z 4)) := h.cell 4
  have c5 : w.cell? ⟨g, 5, none⟩ = some (.int .u8 (z 5)) := h.cell 5
  have c6 : w.cell? ⟨g, 6, none⟩ = some (.int .u8 (z 6)) := h.cell 6
  have c7 : w.cell? ⟨g, 7, none⟩ = some (.int .u8 (z 7)) := h.cell 7
  have c8 : w.cell? ⟨g, 8, none⟩ = some (.int .u8 l) := h.cell 8
  clear h
  go_enter Tryd.func11, Tryd.ntmps11
  go_wp2_with fail
  refine rg_begin (S := fun w' => w'.cell? ⟨g, 0, none⟩ = some (.int .u8 (z 0)) ∧ w'.cell? ⟨g, 1, none⟩ = some (.int .u8 (z 1)) ∧ w'.cell? ⟨g, 2, none⟩ = some (.int .u8 (z 2)) ∧ w'.cell? ⟨g, 3, none⟩ = some (.int .u8 (z 3)) ∧ w'.cell? ⟨g, 4, none⟩ = some (.int .u8 (z 4)) ∧ w'.cell? ⟨g, 5, none⟩ = some (.int .u8 (z 5)) ∧ w'.cell? ⟨g, 6, none⟩ = some (.int .u8 (z 6)) ∧ w'.cell? ⟨g, 7, none⟩ = some (.int .u8 (z 7)) ∧ w'.cell? ⟨g, 8, none⟩ = some (.int .u8 l)) 10 #[false, false, false, false, false, false, false, false, false, false] (by kernel_rfl) (by kernel_rfl) (by kernel_rfl) ?_ (fun hHeld => ?_)
  · exact ⟨c0, c1, c2, c3, c4, c5, c6, c7, c8⟩
  refine rg_take (i := 0) (d := some 5) (l := #[true, false, false, false, false, false, false, false, false, false]) (fuel := 9) (v := ?_) rfl (by kernel_rfl) (by kernel_rfl) (by kernel_rfl) (by kernel_rfl) (by kernel_rfl) (fun _ _ _ h => h) (by kernel_rfl) ?_ (by assumption) ?_
  rotate_left 1
  · (intro wS hSw; (try dsimp only at hSw); go_simp; try with_reducible rfl)
  try simp only [Act.put, List.setIfInBounds_toArray, List.set_cons_zero, List.set_cons_succ]
  refine rg_take (i := 1) (d := some 6) (l := #[true, true, false, false, false, false, false, false, false, false]) (fuel := 8) (v := ?_) rfl (by kernel_rfl) (by kernel_rfl) (by kernel_rfl) (by kernel_rfl) (by kernel_rfl) (fun _ _ _ h => h) (by kernel_rfl) ?_ (by assumption) ?_
  rotate_left 1
  · (intro wS hSw; (try dsimp only at hSw); go_simp; try with_reducible rfl)
  try simp only [Act.put, List.setIfInBounds_toArray, List.set_cons_zero, List.set_cons_succ]
  refine rg_take (i := 2) (d := some 7) (l := #[true, true, true, false, false, false, false, false, false, false]) (fuel := 7) (v := ?_) rfl (by kernel_rfl) (by kernel_rfl) (by kernel_rfl) (by kernel_rfl) (by kernel_rfl) (fun _ _ _ h => h) (by kernel_rfl) ?_ (by assumption) ?_
  rotate_left 1
  · (intro wS hSw; (try dsimp only at hSw); go_simp; try with_reducible rfl)
  try simp only [Act.put, List.setIfInBounds_toArray, List.set_cons_zero, List.set_cons_succ]
  refine rg_take (i := 3) (d := some 8) (l := #[true, true, true, true, false, false, false, false, false, false]) (fuel := 6) (v := ?_) rfl (by kernel_rfl) (by kernel_rfl) (by kernel_rfl) (by kernel_rfl) (by kernel_rfl) (fun _ _ _ h => h) (by kernel_rfl) ?_ (by assumption) ?_
  rotate_left 1
  · (intro wS hSw; (try dsimp only at hSw); go_simp; try with_reducible rfl)
  try simp only [Act.put, List.setIfInBounds_toArray, List.set_cons_zero, List.set_cons_succ]
  refine rg_take (i := 4) (d := some 9) (l := #[true, true, true, true, true, false, false, false, false, false]) (fuel := 5) (v := ?_) rfl (by kernel_rfl) (by kernel_rfl) (by kernel_rfl) (by kernel_rfl) (by kernel_rfl) (fun _ _ _ h => h) (by kernel_rfl) ?_ (by assumption) ?_
  rotate_left 1
  · (intro wS hSw; (try dsimp only at hSw); go_simp; try with_reducible rfl)
  try simp only [Act.put, List.setIfInBounds_toArray, List.set_cons_zero, List.set_cons_succ]
  refine rg_take (i := 5) (d := some 10) (l := #[true, true, true, true, true, true, false, false, false, false]) (fuel := 4) (v := ?_) rfl (by kernel_rfl) (by kernel_rfl) (by kernel_rfl) (by kernel_rfl) (by kernel_rfl) (fun _ _ _ h => h) (by kernel_rfl) ?_ (by assumption) ?_
  rotate_left 1
  · (intro wS hSw; (try dsimp only at hSw); go_simp; try with_reducible rfl)
  try simp only [Act.put, List.setIfInBounds_toArray, List.set_cons_zero, List.set_cons_succ]
  refine rg_take (i := 6) (d := some 11) (l := #[true, true, true, true, true, true, true, false, false, false]) (fuel := 3) (v := ?_) rfl (by kernel_rfl) (by kernel_rfl) (by kernel_rfl) (by kernel_rfl) (by kernel_rfl) (fun _ _ _ h => h) (by kernel_rfl) ?_ (by assumption) ?_
  rotate_left 1
  · (intro wS hSw; (try dsimp only at hSw); go_simp; try with_reducible rfl)
  try simp only [Act.put, List.setIfInBounds_toArray, List.set_cons_zero, List.set_cons_succ]
  refine rg_take (i := 7) (d := some 12) (l := #[true, true, true, true, true, true, true, true, false, false]) (fuel := 2) (v := ?_) rfl (by kernel_rfl) (by kernel_rfl) (by kernel_rfl) (by kernel_rfl) (by kernel_rfl) (fun _ _ _ h => h) (by kernel_rfl) ?_ (by assumption) ?_
  rotate_left 1
  · (intro wS hSw; (try dsimp only at hSw); go_simp; try with_reducible rfl)
  try simp only [Act.put, List.setIfInBounds_toArray, List.set_cons_zero, List.set_cons_succ]
  refine rg_next (i := 8) (l := #[true, true, true, true, true, true, true, true, true, false]) (fuel := 1) (by kernel_rfl) rfl (by kernel_rfl) (by kernel_rfl) (fun K hK => ?_)
  go_simp
  (go_at_call 9)
  refine (mof_any z l _).mono ?_
  rintro e w1 ⟨h, rfl, hh, h1, b1⟩
  have H1 := Lib.hid h1
  have HB := Lib.hid ((Below.refl _ w).drew.trans b1)
  have hc := fun (p : Addr) (v : Value) (hp : w.drew.cell? p = some v) => (b1.cell (p := p) (cell_lt hp)).trans hp
  clear b1 h1
  first | (refine hK.out _ _ ?_ (fun hHeld => ?_)) | (go_wp2_with fail; refine hK.out _ _ ?_ (fun hHeld => ?_))
  · (try dsimp only); exact ⟨hc _ _ c0, hc _ _ c1, hc _ _ c2, hc _ _ c3, hc _ _ c4, hc _ _ c5, hc _ _ c6, hc _ _ c7, hc _ _ c8⟩
  clear hK K
  try simp only [Act.put, List.setIfInBounds_toArray, List.set_cons_zero, List.set_cons_succ]
  refine rg_take (i := 9) (d := some 2) (l := #[true, true, true, true, true, true, true, true, true, true]) (fuel := 0) (v := ?_) rfl (by kernel_rfl) (by kernel_rfl) (by kernel_rfl) (by kernel_rfl) (by kernel_rfl) (fun _ _ _ h => h) (by kernel_rfl) ?_ (by assumption) ?_
  rotate_left 1
  · (intro wS hSw; (try dsimp only at hSw); go_simp; try with_reducible rfl)
  try simp only [Act.put, List.setIfInBounds_toArray, List.set_cons_zero, List.set_cons_succ]
  refine wpAnyH_done (by kernel_rfl) ?_ _
  go_wp2_with fail
  go_ret
  exact ⟨h, rfl, hh, H1.out, HB.out⟩
/-- What is moved from the first page. -/
def fstP (z : Nat → Int) (l : Int) : List (Fin 8) → Int
  | [] => l
  | x :: _ => z x.val
def getI (z : Nat → Int) (l m : Int) : Int := fstP z l (wthL (fun i => bitB m i) 8)
theorem ownFrom_kp {α : Type} {n : Nat} {L : List Nat} {w0 : World} (hn : w0.heap.size ≤ n) : OwnFrom n (fun (_ : List α) W1 => Kp L w0 W1) := fun s A B row hs hg hr =>
  ⟨hg.os.trans hs.os, hg.tape.trans hs.tape, hg.output.trans hs.output, Nat.le_trans hs.size hg.size, fun i hi hni => (hg.block i (Nat.lt_of_lt_of_le hi hs.size) fun e => by have := (hr i e.symm).1; omega).trans (hs.block i hi hni)⟩
theorem kp_put {a W : World} {L : List Nat} {D : Nat} {o o' : Obj} (h : Kp L a W) (ho : W.heap[D]? = some o) (hc : o.isCells = false) (hD : a.heap.size ≤ D) : Kp L a (W.putObj D o') := by
  have hg := grownBy_putObj' W D o'
  exact ⟨hg.os.trans h.os, hg.tape.trans h.tape, hg.output.trans h.output, Nat.le_trans h.size hg.size, fun i hi hn => (hg.block i (Nat.lt_of_lt_of_le hi h.size) fun e => by cases e; omega).trans (h.block i hi hn)⟩
set_option maxHeartbeats 4000000 in
theorem mget_any (h : MM w g z l) (m : Int) : Calls Tryd.prog 42 #[.pointer (some ⟨g, 0, none⟩), .int .u8 m] w (MmR (.int .u8 (getI z l m)) g z (getI z l m) w) := by
  refine (callsIn_wide (n := 6)).1 ?_
  refine callsIn_of_wp_marks Tryd.func42 rfl trivial ?_ rfl
  simp only [Tryd.ntmps42, List.size_toArray, List.length_cons, List.length_nil, Nat.reduceAdd, Nat.reduceSub, Array.replicate_succ, Array.replicate_zero, List.push_toArray, List.append_toArray, List.nil_append, List.cons_append]
  have hl := h.lt_
  gi_wp2
  refine ⟨trivial, callsIn_wide.2 ?_⟩
  have k4 : Kp [g] w (w.alloc (.cells #[.pointer (some ⟨g, 0, none⟩)] 25)) := (Kp.refl _ w).alloc _
  have b0 : MM (w.alloc (.cells #[.pointer (some ⟨g, 0, none⟩)] 25)) g z l := Blk.alloc h _
  have b1 : Blk (w.alloc (.cells #[.pointer (some ⟨g, 0, none⟩)] 25)) w.heap.size 25 #[.pointer (some ⟨g, 0, none⟩)] := Blk.new_ rfl
  have s4 : (w.alloc (.cells #[.pointer (some ⟨g, 0, none⟩)] 25)).heap.size = w.heap.size + 1 := by simp
  generalize World.alloc _ _ = w4 at *
  refine (within_any m w4).mono ?_
  rintro e w5 ⟨bn, rfl, hbn, hle, hB5⟩
  have k5 : Kp [g] w w5 := k4.trans (Kp.of_below (L := []) hB5) (by simp)
  replace b0 := b0.below hB5 b0.lt_
  replace b1 := b1.below hB5 b1.lt
  have s5 := hB5.size
  unfold wthV
  gi_wp2
  refine wpIn_rangeFunc_ownF rfl (by omega) (gf := 60) (lb := #[.pointer (some ⟨bn, 0, none⟩)]) rfl trivial (enters_of Tryd.func60 (by kernel_rfl) rfl)
    (wth_stops 5 (by omega) bn m w5 hbn) (fun h k hb => k (h hb)) (fun W l o o' _ ho hc _ h => blk_put h ho hc) (Below.refl _ _) (fun _ => rfl)
    (fun pre W1 => (pre = [] ∧ MM W1 g z l ∧ Blk W1 w.heap.size 25 #[.pointer (some ⟨g, 0, none⟩)]) ∧ Kp [g] w W1)
    (fun c pre W1 => (c = .exit 0 ∧ ∃ x : Fin 8, pre = [x] ∧ MM W1 g z (z x.val) ∧ Blk W1 w.heap.size 25 #[.pointer (some ⟨g, 0, none⟩)]) ∧ Kp [g] w W1)
    (OwnFrom.and (I := fun pre W1 => pre = [] ∧ MM W1 g z l ∧ Blk W1 w.heap.size 25 #[.pointer (some ⟨g, 0, none⟩)]) (fun s A B row hs hg hr => ⟨hs.1, blk_own hs.2.1 hg (fun r e => (hr r e).2), blk_own hs.2.2 hg (fun r e => (hr r e).2)⟩) (ownFrom_kp (by omega)))
    (fun c => OwnFrom.and (I := fun pre W1 => c = .exit 0 ∧ ∃ x : Fin 8, pre = [x] ∧ MM W1 g z (z x.val) ∧ Blk W1 w.heap.size 25 #[.pointer (some ⟨g, 0, none⟩)]) (fun s A B row hs hg hr => by obtain ⟨h0, x, h1, h2, h3⟩ := hs; exact ⟨h0, x, h1, blk_own h2 hg (fun r e => (hr r e).2), blk_own h3 hg (fun r e => (hr r e).2)⟩) (ownFrom_kp (by omega)))
    ⟨⟨rfl, b0, b1⟩, k5⟩
    (fun x => { tmps := #[.pointer (some ⟨g, 0, none⟩), .int .u8 m, .pointer (some ⟨w.heap.size, 0, none⟩), undef, .int .u8 0, .int .i64 (x.val : Int), .pointer (some ⟨g, 0, none⟩), .bool false, .int .u8 m, .func (.func 60) #[] #[.pointer (some ⟨bn, 0, none⟩)], .int .i64 (x.val : Int), undef, undef, undef, undef, undef, undef, undef, undef, undef, undef, undef, undef, undef], defers := [] }) ?assign ?body ?done ?stop
  case assign =>
    intro l x W1 K hK
    gi_wp2
    exact hK
  case body =>
    rintro l' pre x W1 ⟨⟨rfl, h0, h1⟩, hK⟩ _
    have hx8 := x.isLt
    have c1 : W1.cell? ⟨w.heap.size, 0, none⟩ = some (.pointer (some ⟨g, 0, none⟩)) := h1.cell 0
    have c0 : W1.cell? ⟨g, x.val, none⟩ = some (.int .u8 (z x.val)) := by rw [Blk.cell h0, mmC_v, vArr_at 9 _ _ (by omega)]; unfold mmV; rw [if_pos hx8]
    have c8 : W1.cell? ⟨g, 8, none⟩ = some (.int .u8 l) := Blk.cell h0 8
    have f8 := Blk.frozen h0 8
    have i0 : (0 : Int) ≤ (x.val : Int) := by omega
    have i1 : (x.val : Int) < 8 := by omega
    have H0 := Lib.hid h0
    have H1 := Lib.hid h1
    clear h0 h1
    have hmx : Tryd.prog.follows .mixedOrders = true := by kernel_rfl
    gi_wp2
    gi_region_with_o (fail)
    all_goals gi_wp2
    all_goals exact ⟨(KeepsOthers.setCell _ _ _).trans (KeepsOthers.drew _), ⟨rfl, x, rfl, MM.last_ H0.out (z x.val), H1.out.far (p := ⟨g, 8, none⟩) (by simp; omega) _⟩, (hK.setCell (p := ⟨g, 8, none⟩) (.inl (by simp)) _).drew⟩
  case done =>
    rintro D xs W1 hD rfl ⟨⟨hp, h0, h1⟩, hK1⟩ hK
    have c1 : W1.cell? ⟨w.heap.size, 0, none⟩ = some (.pointer (some ⟨g, 0, none⟩)) := h1.cell 0
    have c8 : W1.cell? ⟨g, 8, none⟩ = some (.int .u8 l) := Blk.cell h0 8
    gi_wp2
    refine ⟨by simp, .inl ⟨_, _, rfl, run_takeDeferred hK, ?_⟩⟩
    have hg : getI z l m = l := by unfold getI; rw [hp]; rfl
    rw [hg]
    exact ⟨_, results_tmp rfl _ _ _, rfl, blk_put h0 hK rfl, kp_put hK1 hK rfl (by omega)⟩
  case stop =>
    rintro D c pre W1 hD hpre ⟨⟨rfl, x, rfl, h0, h1⟩, hK1⟩ hK
    have c1 : W1.cell? ⟨w.heap.size, 0, none⟩ = some (.pointer (some ⟨g, 0, none⟩)) := h1.cell 0
    have c8 : W1.cell? ⟨g, 8, none⟩ = some (.int .u8 (z x.val)) := Blk.cell h0 8
    gi_wp2
    refine ⟨by simp, .inl ⟨_, _, rfl, run_takeDeferred hK, ?_⟩⟩
    have hg : getI z l m = z x.val := by
      obtain ⟨r, hr⟩ := hpre
      unfold getI; rw [← hr]; rfl
    rw [hg]
    exact ⟨_, results_tmp rfl _ _ _, rfl, blk_put h0 hK rfl, kp_put hK1 hK rfl (by omega)⟩
end
end Go.Proofs.YtccimkmlbcgekaaDoor
