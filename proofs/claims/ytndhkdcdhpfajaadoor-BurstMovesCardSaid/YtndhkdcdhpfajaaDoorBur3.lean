/-
  Blocks on their way: the next cycle's access.
-/
import Derived.Test.YtndhkdcdhpfajaaDoorBur2
import Derived.Test.YtndhkdcdhpfajaaDoorG14
import Derived.Test.YtndhkdcdhpfajaaDoorG22
import Derived.Deep.Cut
namespace Go.Proofs.YtndhkdcdhpfajaaDoor
open Go.RowKit Go.Shelf
set_option linter.unusedVariables false
set_option linter.unusedSimpArgs false
set_option maxRecDepth 100000
attribute [local go_sem] Oper.semAt_some
/-- The kinds of a byte's cycles. -/
def BKd (w : World) : Prop := 0 < w.heap.size ∧ ∀ k, k < 6 → w.cell? ⟨0, k, none⟩ = some (.int .u8 (if k = 1 then 3 else if k = 4 then 4 else 2))
theorem BKd.keep {B : Nat} {w w' : World} (h : BKd w) (hb : Below B w w') (hB : 0 < B) : BKd w' := ⟨Nat.lt_of_lt_of_le h.1 hb.size, fun k hk => (World.cell?_of_block (hb.block _ hB)).trans (h.2 k hk)⟩
theorem BKd.below {w w' : World} (h : BKd w) (hb : Below w.heap.size w w') : BKd w' := h.keep hb h.1
theorem BKd.kp {w w' : World} {L : List Nat} (h : BKd w) (k : Kp L w w') (hL : 0 ∉ L) : BKd w' := ⟨Nat.lt_of_lt_of_le h.1 k.size, fun j hj => (k.cell h.1 hL).trans (h.2 j hj)⟩
def bwC (g : Nat) (s : Bu) (w : World) : Prop := w.cell? ⟨g, 0, none⟩ = some (.int .u8 (s.k : Int)) ∧ w.cell? ⟨g, 1, none⟩ = some (.int .u16 s.f) ∧ w.cell? ⟨g, 2, none⟩ = some (.int .u16 s.t) ∧ w.cell? ⟨g, 4, none⟩ = some (.int .i64 (s.m : Int))
theorem BuB.drew_ {w : World} {g : Nat} {s : Bu} (h : BuB w g s) : BuB w.drew g s := h
theorem bw_of {w : World} {g : Nat} {s : Bu} (h : BuB w g s) : bwC g s w := ⟨Blk.cell h 0, Blk.cell h 1, Blk.cell h 2, Blk.cell h 4⟩
theorem mv_stored {W w3 : World} {g gm : Nat} {s : Bu} (xf xt : Int) (N : Blk w3 gm 48 #[.int .u16 0, .int .u16 0]) (H : BuB w3 g s) (B : Below W.heap.size W w3) (T : BKd w3) (hg : W.heap.size ≤ gm) (hG : 0 < W.heap.size) :
    Blk ((w3.setCell ⟨gm, 0, none⟩ (.int .u16 xf)).setCell ⟨gm, 1, none⟩ (.int .u16 xt)) gm 48 #[.int .u16 xf, .int .u16 xt] ∧ BuB ((w3.setCell ⟨gm, 0, none⟩ (.int .u16 xf)).setCell ⟨gm, 1, none⟩ (.int .u16 xt)) g s ∧ Below W.heap.size W ((w3.setCell ⟨gm, 0, none⟩ (.int .u16 xf)).setCell ⟨gm, 1, none⟩ (.int .u16 xt)) ∧ BKd ((w3.setCell ⟨gm, 0, none⟩ (.int .u16 xf)).setCell ⟨gm, 1, none⟩ (.int .u16 xt)) := by
  have k : Kp [gm] w3 ((w3.setCell ⟨gm, 0, none⟩ (.int .u16 xf)).setCell ⟨gm, 1, none⟩ (.int .u16 xt)) := ((Kp.refl [gm] w3).setCell (.inl (by simp)) _).setCell (.inl (by simp)) _
  have ne : g ≠ gm := Blk.ne_ H N (by decide)
  exact ⟨(N.set_ 0 _).set_ 1 _, H.kp k (by simpa using ne), Kp.onto B k B.size (by simpa using hg), T.kp k (by simp; omega)⟩
set_option maxHeartbeats 8000000 in
theorem bnext_0 {w : World} {g : Nat} {k b m : Nat} {f t d : Int} (h : BuB w g ⟨k, f, t, b, m, 0, d⟩) (ho : Bu.ok ⟨k, f, t, b, m, 0, d⟩) (hT : BKd w) (x : m ≠ b) : Calls Tryd.prog 12 #[.pointer (some ⟨g, 0, none⟩)] w fun e w' => e = .returned (.tuple #[.int .u8 2, .int .u16 0]) ∧ Below w.heap.size w w' := by
  have hD := bdone_any h ho
  rw [decide_eq_false x] at hD
  have hA := fun W => vat_any k f t (m : Int) ho.f0 ho.f1 ho.t0 ho.t1 (by omega) (by have := ho.m1; have := ho.b1; dsimp only at *; omega) W
  unfold atV at hA
  rw [if_pos ⟨ho.k5, by omega⟩] at hA
  generalize mvF k f (m : Int) = xf at *
  generalize mvT k t (m : Int) = xt at *
  have HA := Lib.hid hA
  have H := Lib.hid h
  have HD := Lib.hid hD
  have HT := Lib.hid hT
  have HG := Lib.hid hT.1
  clear h ho hD hT hA x
  go_enter Tryd.func12, Tryd.ntmps12
  go_upto_region 3 with (refine HD.out.mono ?_; rintro e w1 ⟨rfl, hb⟩; have H1 := Lib.hid (H.out.keep hb); have HB1 := Lib.hid hb; have HT1 := Lib.hid (HT.out.below hb); clear hb H HT)
  refine rg_begin (S := fun w' => w'.cell? ⟨g, 0, none⟩ = some (.int .u8 (k : Int)) ∧ w'.cell? ⟨g, 1, none⟩ = some (.int .u16 f) ∧ w'.cell? ⟨g, 2, none⟩ = some (.int .u16 t) ∧ w'.cell? ⟨g, 4, none⟩ = some (.int .i64 (m : Int))) 23 #[false, false, false, false, false, false, false, false, false, false, false, false, false, false, false, false, false, false, false, false, false, false, false] (by kernel_rfl) (by kernel_rfl) (by kernel_rfl) ?_ (fun hHeld => ?_)
  · exact bw_of H1.out.drew_
  refine rg_take (i := 0) (d := some 10) (l := #[true, false, false, false, false, false, false, false, false, false, false, false, false, false, false, false, false, false, false, false, false, false, false]) (fuel := 22) (v := ?_) rfl (by kernel_rfl) (by kernel_rfl) (by kernel_rfl) (by kernel_rfl) (by kernel_rfl) (fun _ _ _ h => h) (by kernel_rfl) ?_ (by assumption) ?_
  rotate_left 1
  · (intro wS hSw; (try dsimp only at hSw); go_simp; try with_reducible rfl)
  try simp only [Act.put, List.setIfInBounds_toArray, List.set_cons_zero, List.set_cons_succ]
  refine rg_take (i := 1) (d := some 11) (l := #[true, true, false, false, false, false, false, false, false, false, false, false, false, false, false, false, false, false, false, false, false, false, false]) (fuel := 21) (v := ?_) rfl (by kernel_rfl) (by kernel_rfl) (by kernel_rfl) (by kernel_rfl) (by kernel_rfl) (fun _ _ _ h => h) (by kernel_rfl) ?_ (by assumption) ?_
  rotate_left 1
  · (intro wS hSw; (try dsimp only at hSw); go_simp; try with_reducible rfl)
  try simp only [Act.put, List.setIfInBounds_toArray, List.set_cons_zero, List.set_cons_succ]
  refine rg_take (i := 2) (d := some 12) (l := #[true, true, true, false, false, false, false, false, false, false, false, false, false, false, false, false, false, false, false, false, false, false, false]) (fuel := 20) (v := ?_) rfl (by kernel_rfl) (by kernel_rfl) (by kernel_rfl) (by kernel_rfl) (by kernel_rfl) (fun _ _ _ h => h) (by kernel_rfl) ?_ (by assumption) ?_
  rotate_left 1
  · (intro wS hSw; (try dsimp only at hSw); go_simp; try with_reducible rfl)
  try simp only [Act.put, List.setIfInBounds_toArray, List.set_cons_zero, List.set_cons_succ]
  refine rg_take (i := 3) (d := some 13) (l := #[true, true, true, true, false, false, false, false, false, false, false, false, false, false, false, false, false, false, false, false, false, false, false]) (fuel := 19) (v := ?_) rfl (by kernel_rfl) (by kernel_rfl) (by kernel_rfl) (by kernel_rfl) (by kernel_rfl) (fun _ _ _ h => h) (by kernel_rfl) ?_ (by assumption) ?_
  rotate_left 1
  · (intro wS hSw; (try dsimp only at hSw); go_simp; try with_reducible rfl)
  try simp only [Act.put, List.setIfInBounds_toArray, List.set_cons_zero, List.set_cons_succ]
  refine rg_take (i := 4) (d := some 14) (l := #[true, true, true, true, true, false, false, false, false, false, false, false, false, false, false, false, false, false, false, false, false, false, false]) (fuel := 18) (v := ?_) rfl (by kernel_rfl) (by kernel_rfl) (by kernel_rfl) (by kernel_rfl) (by kernel_rfl) (fun _ _ _ h => h) (by kernel_rfl) ?_ (by assumption) ?_
  rotate_left 1
  · (intro wS hSw; (try dsimp only at hSw); go_simp; try with_reducible rfl)
  try simp only [Act.put, List.setIfInBounds_toArray, List.set_cons_zero, List.set_cons_succ]
  refine rg_take (i := 5) (d := some 15) (l := #[true, true, true, true, true, true, false, false, false, false, false, false, false, false, false, false, false, false, false, false, false, false, false]) (fuel := 17) (v := ?_) rfl (by kernel_rfl) (by kernel_rfl) (by kernel_rfl) (by kernel_rfl) (by kernel_rfl) (fun _ _ _ h => h) (by kernel_rfl) ?_ (by assumption) ?_
  rotate_left 1
  · (intro wS hSw; (try dsimp only at hSw); go_simp; try with_reducible rfl)
  try simp only [Act.put, List.setIfInBounds_toArray, List.set_cons_zero, List.set_cons_succ]
  refine rg_take (i := 6) (d := some 16) (l := #[true, true, true, true, true, true, true, false, false, false, false, false, false, false, false, false, false, false, false, false, false, false, false]) (fuel := 16) (v := ?_) rfl (by kernel_rfl) (by kernel_rfl) (by kernel_rfl) (by kernel_rfl) (by kernel_rfl) (fun _ _ _ h => h) (by kernel_rfl) ?_ (by assumption) ?_
  rotate_left 1
  · (intro wS hSw; (try dsimp only at hSw); go_simp; try with_reducible rfl)
  try simp only [Act.put, List.setIfInBounds_toArray, List.set_cons_zero, List.set_cons_succ]
  refine rg_take (i := 7) (d := some 17) (l := #[true, true, true, true, true, true, true, true, false, false, false, false, false, false, false, false, false, false, false, false, false, false, false]) (fuel := 15) (v := ?_) rfl (by kernel_rfl) (by kernel_rfl) (by kernel_rfl) (by kernel_rfl) (by kernel_rfl) (fun _ _ _ h => h) (by kernel_rfl) ?_ (by assumption) ?_
  rotate_left 1
  · (intro wS hSw; (try dsimp only at hSw); go_simp; try with_reducible rfl)
  try simp only [Act.put, List.setIfInBounds_toArray, List.set_cons_zero, List.set_cons_succ]
  refine rg_take (i := 8) (d := some 18) (l := #[true, true, true, true, true, true, true, true, true, false, false, false, false, false, false, false, false, false, false, false, false, false, false]) (fuel := 14) (v := ?_) rfl (by kernel_rfl) (by kernel_rfl) (by kernel_rfl) (by kernel_rfl) (by kernel_rfl) (fun _ _ _ h => h) (by kernel_rfl) ?_ (by assumption) ?_
  rotate_left 1
  · (intro wS hSw; (try dsimp only at hSw); go_simp; try with_reducible rfl)
  try simp only [Act.put, List.setIfInBounds_toArray, List.set_cons_zero, List.set_cons_succ]
  refine rg_take (i := 9) (d := some 19) (l := #[true, true, true, true, true, true, true, true, true, true, false, false, false, false, false, false, false, false, false, false, false, false, false]) (fuel := 13) (v := ?_) rfl (by kernel_rfl) (by kernel_rfl) (by kernel_rfl) (by kernel_rfl) (by kernel_rfl) (fun _ _ _ h => h) (by kernel_rfl) ?_ (by assumption) ?_
  rotate_left 1
  · (intro wS hSw; (try dsimp only at hSw); go_simp; try with_reducible rfl)
  try simp only [Act.put, List.setIfInBounds_toArray, List.set_cons_zero, List.set_cons_succ]
  refine rg_take (i := 10) (d := some 20) (l := #[true, true, true, true, true, true, true, true, true, true, true, false, false, false, false, false, false, false, false, false, false, false, false]) (fuel := 12) (v := ?_) rfl (by kernel_rfl) (by kernel_rfl) (by kernel_rfl) (by kernel_rfl) (by kernel_rfl) (fun _ _ _ h => h) (by kernel_rfl) ?_ (by assumption) ?_
  rotate_left 1
  · (intro wS hSw; (try dsimp only at hSw); go_simp; try with_reducible rfl)
  try simp only [Act.put, List.setIfInBounds_toArray, List.set_cons_zero, List.set_cons_succ]
  refine rg_take (i := 11) (d := some 21) (l := #[true, true, true, true, true, true, true, true, true, true, true, true, false, false, false, false, false, false, false, false, false, false, false]) (fuel := 11) (v := ?_) rfl (by kernel_rfl) (by kernel_rfl) (by kernel_rfl) (by kernel_rfl) (by kernel_rfl) (fun _ _ _ h => h) (by kernel_rfl) ?_ (by assumption) ?_
  rotate_left 1
  · (intro wS hSw; (try dsimp only at hSw); go_simp; try with_reducible rfl)
  try simp only [Act.put, List.setIfInBounds_toArray, List.set_cons_zero, List.set_cons_succ]
  refine rg_take (i := 12) (d := some 22) (l := #[true, true, true, true, true, true, true, true, true, true, true, true, true, false, false, false, false, false, false, false, false, false, false]) (fuel := 10) (v := ?_) rfl (by kernel_rfl) (by kernel_rfl) (by kernel_rfl) (by kernel_rfl) (by kernel_rfl) (fun _ _ _ h => h) (by kernel_rfl) ?_ (by assumption) ?_
  rotate_left 1
  · (intro wS hSw; (try dsimp only at hSw); go_simp; try with_reducible rfl)
  try simp only [Act.put, List.setIfInBounds_toArray, List.set_cons_zero, List.set_cons_succ]
  refine rg_take (i := 13) (d := some 23) (l := #[true, true, true, true, true, true, true, true, true, true, true, true, true, true, false, false, false, false, false, false, false, false, false]) (fuel := 9) (v := ?_) rfl (by kernel_rfl) (by kernel_rfl) (by kernel_rfl) (by kernel_rfl) (by kernel_rfl) (fun _ _ _ h => h) (by kernel_rfl) ?_ (by assumption) ?_
  rotate_left 1
  · (intro wS hSw; (try dsimp only at hSw); go_simp; try with_reducible rfl)
  try simp only [Act.put, List.setIfInBounds_toArray, List.set_cons_zero, List.set_cons_succ]
  refine rg_take (i := 14) (d := some 24) (l := #[true, true, true, true, true, true, true, true, true, true, true, true, true, true, true, false, false, false, false, false, false, false, false]) (fuel := 8) (v := ?_) rfl (by kernel_rfl) (by kernel_rfl) (by kernel_rfl) (by kernel_rfl) (by kernel_rfl) (fun _ _ _ h => h) (by kernel_rfl) ?_ (by assumption) ?_
  rotate_left 1
  · (intro wS hSw; (try dsimp only at hSw); go_simp; try with_reducible rfl)
  try simp only [Act.put, List.setIfInBounds_toArray, List.set_cons_zero, List.set_cons_succ]
  refine rg_take (i := 15) (d := some 25) (l := #[true, true, true, true, true, true, true, true, true, true, true, true, true, true, true, true, false, false, false, false, false, false, false]) (fuel := 7) (v := ?_) rfl (by kernel_rfl) (by kernel_rfl) (by kernel_rfl) (by kernel_rfl) (by kernel_rfl) (fun _ _ _ h => h) (by kernel_rfl) ?_ (by assumption) ?_
  rotate_left 1
  · (intro wS hSw; (try dsimp only at hSw); go_simp; try with_reducible rfl)
  try simp only [Act.put, List.setIfInBounds_toArray, List.set_cons_zero, List.set_cons_succ]
  refine rg_of (rs := [16, 20]) (fuel := 6) (by kernel_rfl) rfl ?_
  refine rg_step (i := 16) (l := #[true, true, true, true, true, true, true, true, true, true, true, true, true, true, true, true, true, false, false, false, false, false, false]) rfl (by kernel_rfl) (by kernel_rfl) ?_ ?_
  · intro K hK
    go_simp
    go_at_call 19
    refine (HA.out _).mono ?_
    rintro e w2 ⟨rfl, hb⟩
    have H2 := Lib.hid (H1.out.drew_.below hb H1.out.drew_.lt)
    have HB2 := Lib.hid (HB1.out.drew.trans (hb.mono HB1.out.drew.size))
    have HT2 := Lib.hid (BKd.below (w := w1.drew) HT1.out hb)
    clear hb H1 HB1 HT1
    first | (refine hK.out _ _ ?_ (fun hHeld => ?_)) | (go_wp2_with fail; refine hK.out _ _ ?_ (fun hHeld => ?_))
    · (try dsimp only); exact bw_of H2.out
    clear hK K
    try simp only [Act.put, List.setIfInBounds_toArray, List.set_cons_zero, List.set_cons_succ]
    refine rg_take (i := 17) (d := some 9) (l := #[true, true, true, true, true, true, true, true, true, true, true, true, true, true, true, true, true, true, false, false, false, false, false]) (fuel := 5) (v := ?_) rfl (by kernel_rfl) (by kernel_rfl) (by kernel_rfl) (by kernel_rfl) (by kernel_rfl) (fun _ _ _ h => h) (by kernel_rfl) ?_ (by assumption) ?_
    rotate_left 1
    · (intro wS hSw; (try dsimp only at hSw); go_simp; try with_reducible rfl)
    try simp only [Act.put, List.setIfInBounds_toArray, List.set_cons_zero, List.set_cons_succ]
    refine rg_take (i := 18) (d := some 27) (l := #[true, true, true, true, true, true, true, true, true, true, true, true, true, true, true, true, true, true, true, false, false, false, false]) (fuel := 4) (v := ?_) rfl (by kernel_rfl) (by kernel_rfl) (by kernel_rfl) (by kernel_rfl) (by kernel_rfl) (fun _ _ _ h => h) (by kernel_rfl) ?_ (by assumption) ?_
    rotate_left 1
    · (intro wS hSw; (try dsimp only at hSw); go_simp; try with_reducible rfl)
    try simp only [Act.put, List.setIfInBounds_toArray, List.set_cons_zero, List.set_cons_succ]
    refine rg_take (i := 19) (d := some 28) (l := #[true, true, true, true, true, true, true, true, true, true, true, true, true, true, true, true, true, true, true, true, false, false, false]) (fuel := 3) (v := ?_) rfl (by kernel_rfl) (by kernel_rfl) (by kernel_rfl) (by kernel_rfl) (by kernel_rfl) (fun _ _ _ h => h) (by kernel_rfl) ?_ (by assumption) ?_
    rotate_left 1
    · (intro wS hSw; (try dsimp only at hSw); go_simp; try with_reducible rfl)
    try simp only [Act.put, List.setIfInBounds_toArray, List.set_cons_zero, List.set_cons_succ]
    refine rg_next (i := 20) (l := #[true, true, true, true, true, true, true, true, true, true, true, true, true, true, true, true, true, true, true, true, true, false, false]) (fuel := 2) (by kernel_rfl) rfl (by kernel_rfl) (by kernel_rfl) (fun K hK => ?_)
    go_simp
    have N3 := Lib.hid (Blk.new w2 48 #[.int .u16 0, .int .u16 0])
    have H3 := Lib.hid (Blk.alloc H2.out (.cells #[.int .u16 0, .int .u16 0] 48))
    have HB3 := Lib.hid (HB2.out.alloc HB2.out.size (.cells #[.int .u16 0, .int .u16 0] 48))
    have HT3 := Lib.hid (HT2.out.below ((Below.refl _ w2).alloc (Nat.le_refl _) (.cells #[.int .u16 0, .int .u16 0] 48)))
    first | (refine hK.out _ _ ?_ (fun hHeld => ?_)) | (go_wp2_with fail; refine hK.out _ _ ?_ (fun hHeld => ?_))
    · (try dsimp only); exact bw_of H3.out
    clear hK K
    try simp only [Act.put, List.setIfInBounds_toArray, List.set_cons_zero, List.set_cons_succ]
    have m0 := N3.out.cell 0
    have m1 := N3.out.cell 1
    have y0 := N3.out.frozen 0
    have y1 := N3.out.frozen 1
    generalize World.alloc w2 _ = w3 at *
    refine rg_next (i := 21) (l := #[true, true, true, true, true, true, true, true, true, true, true, true, true, true, true, true, true, true, true, true, true, true, false]) (fuel := 1) (by kernel_rfl) rfl (by kernel_rfl) (by kernel_rfl) (fun K hK => ?_)
    go_simp
    have X := Lib.hid (mv_stored xf xt N3.out H3.out HB3.out HT3.out HB2.out.size HG.out)
    first | (refine hK.out _ _ ?_ (fun hHeld => ?_)) | (go_wp2_with fail; refine hK.out _ _ ?_ (fun hHeld => ?_))
    · (try dsimp only); exact bw_of X.out.2.1
    clear hK K
    try simp only [Act.put, List.setIfInBounds_toArray, List.set_cons_zero, List.set_cons_succ]
    clear m0 m1 y0 y1 H3 HB3 HT3 N3
    generalize World.setCell (World.setCell w3 _ _) _ _ = w4 at *
    generalize w2.heap.size = gm at *
    clear H2 HB2 HT2
    refine rg_take (i := 22) (d := some 5) (l := #[true, true, true, true, true, true, true, true, true, true, true, true, true, true, true, true, true, true, true, true, true, true, true]) (fuel := 0) (v := ?_) rfl (by kernel_rfl) (by kernel_rfl) (by kernel_rfl) (by kernel_rfl) (by kernel_rfl) (fun _ _ _ h => h) (by kernel_rfl) ?_ (by assumption) ?_
    rotate_left 1
    · (intro wS hSw; (try dsimp only at hSw); go_simp; try with_reducible rfl)
    try simp only [Act.put, List.setIfInBounds_toArray, List.set_cons_zero, List.set_cons_succ]
    refine wpAnyH_done (by kernel_rfl) ?_ _
    have n0 := X.out.1.cell 0
    have n1 := X.out.1.cell 1
    go_wp2_with fail
    have A5 := Lib.hid (Blk.new w4 53 #[.int .u16 0, .int .u16 xf, .int .u16 0, .int .u16 0, .int .u16 xt, .int .u16 0])
    have H5 := Lib.hid (BuB.below X.out.2.1 ((Below.refl _ w4).alloc (Nat.le_refl _) (.cells #[.int .u16 0, .int .u16 xf, .int .u16 0, .int .u16 0, .int .u16 xt, .int .u16 0] 53)) X.out.2.1.lt)
    have T5 := Lib.hid (BKd.below X.out.2.2.2 ((Below.refl _ w4).alloc (Nat.le_refl _) (.cells #[.int .u16 0, .int .u16 xf, .int .u16 0, .int .u16 0, .int .u16 xt, .int .u16 0] 53)))
    have B5 := Lib.hid (X.out.2.2.1.alloc X.out.2.2.1.size (.cells #[.int .u16 0, .int .u16 xf, .int .u16 0, .int .u16 0, .int .u16 xt, .int .u16 0] 53))
    clear n0 n1 X
    generalize World.alloc w4 _ = w5 at *
    generalize w4.heap.size = ga at *
    have c5 : w5.cell? ⟨g, 5, none⟩ = some (.int .i64 0) := Blk.cell H5.out 5
    have ca : w5.cell? ⟨ga, 0, none⟩ = some (.int .u16 0) := A5.out.cell 0
    have ct : w5.cell? ⟨0, 0, none⟩ = some (.int .u8 2) := T5.out.2 0 (by decide)
    go_quiet (fail)
    go_wp2
    go_ret2
    exact ⟨rfl, below_drewN B5.out _⟩
  refine rg_step (i := 20) (l := #[true, true, true, true, true, true, true, true, true, true, true, true, true, true, true, true, false, false, false, false, true, false, false]) rfl (by kernel_rfl) (by kernel_rfl) ?_ ?_
  · intro K hK
    go_simp
    have N3 := Lib.hid (Blk.new w1 48 #[.int .u16 0, .int .u16 0])
    have H3 := Lib.hid (Blk.alloc H1.out (.cells #[.int .u16 0, .int .u16 0] 48))
    have HB3 := Lib.hid (HB1.out.alloc HB1.out.size (.cells #[.int .u16 0, .int .u16 0] 48))
    have HT3 := Lib.hid (HT1.out.below ((Below.refl _ w1).alloc (Nat.le_refl _) (.cells #[.int .u16 0, .int .u16 0] 48)))
    first | (refine hK.out _ _ ?_ (fun hHeld => ?_)) | (go_wp2_with fail; refine hK.out _ _ ?_ (fun hHeld => ?_))
    · (try dsimp only); exact bw_of H3.out
    clear hK K
    try simp only [Act.put, List.setIfInBounds_toArray, List.set_cons_zero, List.set_cons_succ]
    have HGM := Lib.hid HB1.out.size
    clear H1 HB1 HT1
    generalize World.alloc w1 _ = w3 at *
    generalize w1.heap.size = gm at *
    refine rg_next (i := 16) (l := #[true, true, true, true, true, true, true, true, true, true, true, true, true, true, true, true, true, false, false, false, true, false, false]) (fuel := 5) (by kernel_rfl) rfl (by kernel_rfl) (by kernel_rfl) (fun K hK => ?_)
    go_simp
    go_at_call 19
    refine (HA.out _).mono ?_
    rintro e w2 ⟨rfl, hb⟩
    have H2 := Lib.hid (BuB.below (w := w3.drew) H3.out hb (BuB.lt (w := w3) H3.out))
    have HB2 := Lib.hid (HB3.out.drew.trans (hb.mono HB3.out.drew.size))
    have HT2 := Lib.hid (BKd.below (w := w3.drew) HT3.out hb)
    have N2 := Lib.hid (Blk.below (w := w3.drew) N3.out hb (Blk.lt (w := w3) N3.out))
    clear hb H3 HB3 HT3 N3
    first | (refine hK.out _ _ ?_ (fun hHeld => ?_)) | (go_wp2_with fail; refine hK.out _ _ ?_ (fun hHeld => ?_))
    · (try dsimp only); exact bw_of H2.out
    clear hK K
    try simp only [Act.put, List.setIfInBounds_toArray, List.set_cons_zero, List.set_cons_succ]
    have m0 := N2.out.cell 0
    have m1 := N2.out.cell 1
    have y0 := N2.out.frozen 0
    have y1 := N2.out.frozen 1
    refine rg_take (i := 17) (d := some 9) (l := #[true, true, true, true, true, true, true, true, true, true, true, true, true, true, true, true, true, true, false, false, true, false, false]) (fuel := 4) (v := ?_) rfl (by kernel_rfl) (by kernel_rfl) (by kernel_rfl) (by kernel_rfl) (by kernel_rfl) (fun _ _ _ h => h) (by kernel_rfl) ?_ (by assumption) ?_
    rotate_left 1
    · (intro wS hSw; (try dsimp only at hSw); go_simp; try with_reducible rfl)
    try simp only [Act.put, List.setIfInBounds_toArray, List.set_cons_zero, List.set_cons_succ]
    refine rg_take (i := 18) (d := some 27) (l := #[true, true, true, true, true, true, true, true, true, true, true, true, true, true, true, true, true, true, true, false, true, false, false]) (fuel := 3) (v := ?_) rfl (by kernel_rfl) (by kernel_rfl) (by kernel_rfl) (by kernel_rfl) (by kernel_rfl) (fun _ _ _ h => h) (by kernel_rfl) ?_ (by assumption) ?_
    rotate_left 1
    · (intro wS hSw; (try dsimp only at hSw); go_simp; try with_reducible rfl)
    try simp only [Act.put, List.setIfInBounds_toArray, List.set_cons_zero, List.set_cons_succ]
    refine rg_take (i := 19) (d := some 28) (l := #[true, true, true, true, true, true, true, true, true, true, true, true, true, true, true, true, true, true, true, true, true, false, false]) (fuel := 2) (v := ?_) rfl (by kernel_rfl) (by kernel_rfl) (by kernel_rfl) (by kernel_rfl) (by kernel_rfl) (fun _ _ _ h => h) (by kernel_rfl) ?_ (by assumption) ?_
    rotate_left 1
    · (intro wS hSw; (try dsimp only at hSw); go_simp; try with_reducible rfl)
    try simp only [Act.put, List.setIfInBounds_toArray, List.set_cons_zero, List.set_cons_succ]
    refine rg_next (i := 21) (l := #[true, true, true, true, true, true, true, true, true, true, true, true, true, true, true, true, true, true, true, true, true, true, false]) (fuel := 1) (by kernel_rfl) rfl (by kernel_rfl) (by kernel_rfl) (fun K hK => ?_)
    go_simp
    have X := Lib.hid (mv_stored xf xt N2.out H2.out HB2.out HT2.out HGM.out HG.out)
    first | (refine hK.out _ _ ?_ (fun hHeld => ?_)) | (go_wp2_with fail; refine hK.out _ _ ?_ (fun hHeld => ?_))
    · (try dsimp only); exact bw_of X.out.2.1
    clear hK K
    try simp only [Act.put, List.setIfInBounds_toArray, List.set_cons_zero, List.set_cons_succ]
    clear m0 m1 y0 y1 H2 HB2 HT2 N2
    generalize World.setCell (World.setCell w2 _ _) _ _ = w4 at *
    refine rg_take (i := 22) (d := some 5) (l := #[true, true, true, true, true, true, true, true, true, true, true, true, true, true, true, true, true, true, true, true, true, true, true]) (fuel := 0) (v := ?_) rfl (by kernel_rfl) (by kernel_rfl) (by kernel_rfl) (by kernel_rfl) (by kernel_rfl) (fun _ _ _ h => h) (by kernel_rfl) ?_ (by assumption) ?_
    rotate_left 1
    · (intro wS hSw; (try dsimp only at hSw); go_simp; try with_reducible rfl)
    try simp only [Act.put, List.setIfInBounds_toArray, List.set_cons_zero, List.set_cons_succ]
    refine wpAnyH_done (by kernel_rfl) ?_ _
    have n0 := X.out.1.cell 0
    have n1 := X.out.1.cell 1
    go_wp2_with fail
    have A5 := Lib.hid (Blk.new w4 53 #[.int .u16 0, .int .u16 xf, .int .u16 0, .int .u16 0, .int .u16 xt, .int .u16 0])
    have H5 := Lib.hid (BuB.below X.out.2.1 ((Below.refl _ w4).alloc (Nat.le_refl _) (.cells #[.int .u16 0, .int .u16 xf, .int .u16 0, .int .u16 0, .int .u16 xt, .int .u16 0] 53)) X.out.2.1.lt)
    have T5 := Lib.hid (BKd.below X.out.2.2.2 ((Below.refl _ w4).alloc (Nat.le_refl _) (.cells #[.int .u16 0, .int .u16 xf, .int .u16 0, .int .u16 0, .int .u16 xt, .int .u16 0] 53)))
    have B5 := Lib.hid (X.out.2.2.1.alloc X.out.2.2.1.size (.cells #[.int .u16 0, .int .u16 xf, .int .u16 0, .int .u16 0, .int .u16 xt, .int .u16 0] 53))
    clear n0 n1 X
    generalize World.alloc w4 _ = w5 at *
    generalize w4.heap.size = ga at *
    have c5 : w5.cell? ⟨g, 5, none⟩ = some (.int .i64 0) := Blk.cell H5.out 5
    have ca : w5.cell? ⟨ga, 0, none⟩ = some (.int .u16 0) := A5.out.cell 0
    have ct : w5.cell? ⟨0, 0, none⟩ = some (.int .u8 2) := T5.out.2 0 (by decide)
    go_quiet (fail)
    go_wp2
    go_ret2
    exact ⟨rfl, below_drewN B5.out _⟩
  exact AllReadyH.nil
set_option maxHeartbeats 8000000 in
theorem bnext_1 {w : World} {g : Nat} {k b m : Nat} {f t d : Int} (h : BuB w g ⟨k, f, t, b, m, 1, d⟩) (ho : Bu.ok ⟨k, f, t, b, m, 1, d⟩) (hT : BKd w) (x : m ≠ b) : Calls Tryd.prog 12 #[.pointer (some ⟨g, 0, none⟩)] w fun e w' => e = .returned (.tuple #[.int .u8 3, .int .u16 (mvF k f (m : Int))]) ∧ Below w.heap.size w w' := by
  have hD := bdone_any h ho
  rw [decide_eq_false x] at hD
  have hA := fun W => vat_any k f t (m : Int) ho.f0 ho.f1 ho.t0 ho.t1 (by omega) (by have := ho.m1; have := ho.b1; dsimp only at *; omega) W
  unfold atV at hA
  rw [if_pos ⟨ho.k5, by omega⟩] at hA
  generalize mvF k f (m : Int) = xf at *
  generalize mvT k t (m : Int) = xt at *
  have HA := Lib.hid hA
  have H := Lib.hid h
  have HD := Lib.hid hD
  have HT := Lib.hid hT
  have HG := Lib.hid hT.1
  clear h ho hD hT hA x
  go_enter Tryd.func12, Tryd.ntmps12
  go_upto_region 3 with (refine HD.out.mono ?_; rintro e w1 ⟨rfl, hb⟩; have H1 := Lib.hid (H.out.keep hb); have HB1 := Lib.hid hb; have HT1 := Lib.hid (HT.out.below hb); clear hb H HT)
  refine rg_begin (S := fun w' => w'.cell? ⟨g, 0, none⟩ = some (.int .u8 (k : Int)) ∧ w'.cell? ⟨g, 1, none⟩ = some (.int .u16 f) ∧ w'.cell? ⟨g, 2, none⟩ = some (.int .u16 t) ∧ w'.cell? ⟨g, 4, none⟩ = some (.int .i64 (m : Int))) 23 #[false, false, false, false, false, false, false, false, false, false, false, false, false, false, false, false, false, false, false, false, false, false, false] (by kernel_rfl) (by kernel_rfl) (by kernel_rfl) ?_ (fun hHeld => ?_)
  · exact bw_of H1.out.drew_
  refine rg_take (i := 0) (d := some 10) (l := #[true, false, false, false, false, false, false, false, false, false, false, false, false, false, false, false, false, false, false, false, false, false, false]) (fuel := 22) (v := ?_) rfl (by kernel_rfl) (by kernel_rfl) (by kernel_rfl) (by kernel_rfl) (by kernel_rfl) (fun _ _ _ h => h) (by kernel_rfl) ?_ (by assumption) ?_
  rotate_left 1
  · (intro wS hSw; (try dsimp only at hSw); go_simp; try with_reducible rfl)
  try simp only [Act.put, List.setIfInBounds_toArray, List.set_cons_zero, List.set_cons_succ]
  refine rg_take (i := 1) (d := some 11) (l := #[true, true, false, false, false, false, false, false, false, false, false, false, false, false, false, false, false, false, false, false, false, false, false]) (fuel := 21) (v := ?_) rfl (by kernel_rfl) (by kernel_rfl) (by kernel_rfl) (by kernel_rfl) (by kernel_rfl) (fun _ _ _ h => h) (by kernel_rfl) ?_ (by assumption) ?_
  rotate_left 1
  · (intro wS hSw; (try dsimp only at hSw); go_simp; try with_reducible rfl)
  try simp only [Act.put, List.setIfInBounds_toArray, List.set_cons_zero, List.set_cons_succ]
  refine rg_take (i := 2) (d := some 12) (l := #[true, true, true, false, false, false, false, false, false, false, false, false, false, false, false, false, false, false, false, false, false, false, false]) (fuel := 20) (v := ?_) rfl (by kernel_rfl) (by kernel_rfl) (by kernel_rfl) (by kernel_rfl) (by kernel_rfl) (fun _ _ _ h => h) (by kernel_rfl) ?_ (by assumption) ?_
  rotate_left 1
  · (intro wS hSw; (try dsimp only at hSw); go_simp; try with_reducible rfl)
  try simp only [Act.put, List.setIfInBounds_toArray, List.set_cons_zero, List.set_cons_succ]
  refine rg_take (i := 3) (d := some 13) (l := #[true, true, true, true, false, false, false, false, false, false, false, false, false, false, false, false, false, false, false, false, false, false, false]) (fuel := 19) (v := ?_) rfl (by kernel_rfl) (by kernel_rfl) (by kernel_rfl) (by kernel_rfl) (by kernel_rfl) (fun _ _ _ h => h) (by kernel_rfl) ?_ (by assumption) ?_
  rotate_left 1
  · (intro wS hSw; (try dsimp only at hSw); go_simp; try with_reducible rfl)
  try simp only [Act.put, List.setIfInBounds_toArray, List.set_cons_zero, List.set_cons_succ]
  refine rg_take (i := 4) (d := some 14) (l := #[true, true, true, true, true, false, false, false, false, false, false, false, false, false, false, false, false, false, false, false, false, false, false]) (fuel := 18) (v := ?_) rfl (by kernel_rfl) (by kernel_rfl) (by kernel_rfl) (by kernel_rfl) (by kernel_rfl) (fun _ _ _ h => h) (by kernel_rfl) ?_ (by assumption) ?_
  rotate_left 1
  · (intro wS hSw; (try dsimp only at hSw); go_simp; try with_reducible rfl)
  try simp only [Act.put, List.setIfInBounds_toArray, List.set_cons_zero, List.set_cons_succ]
  refine rg_take (i := 5) (d := some 15) (l := #[true, true, true, true, true, true, false, false, false, false, false, false, false, false, false, false, false, false, false, false, false, false, false]) (fuel := 17) (v := ?_) rfl (by kernel_rfl) (by kernel_rfl) (by kernel_rfl) (by kernel_rfl) (by kernel_rfl) (fun _ _ _ h => h) (by kernel_rfl) ?_ (by assumption) ?_
  rotate_left 1
  · (intro wS hSw; (try dsimp only at hSw); go_simp; try with_reducible rfl)
  try simp only [Act.put, List.setIfInBounds_toArray, List.set_cons_zero, List.set_cons_succ]
  refine rg_take (i := 6) (d := some 16) (l := #[true, true, true, true, true, true, true, false, false, false, false, false, false, false, false, false, false, false, false, false, false, false, false]) (fuel := 16) (v := ?_) rfl (by kernel_rfl) (by kernel_rfl) (by kernel_rfl) (by kernel_rfl) (by kernel_rfl) (fun _ _ _ h => h) (by kernel_rfl) ?_ (by assumption) ?_
  rotate_left 1
  · (intro wS hSw; (try dsimp only at hSw); go_simp; try with_reducible rfl)
  try simp only [Act.put, List.setIfInBounds_toArray, List.set_cons_zero, List.set_cons_succ]
  refine rg_take (i := 7) (d := some 17) (l := #[true, true, true, true, true, true, true, true, false, false, false, false, false, false, false, false, false, false, false, false, false, false, false]) (fuel := 15) (v := ?_) rfl (by kernel_rfl) (by kernel_rfl) (by kernel_rfl) (by kernel_rfl) (by kernel_rfl) (fun _ _ _ h => h) (by kernel_rfl) ?_ (by assumption) ?_
  rotate_left 1
  · (intro wS hSw; (try dsimp only at hSw); go_simp; try with_reducible rfl)
  try simp only [Act.put, List.setIfInBounds_toArray, List.set_cons_zero, List.set_cons_succ]
  refine rg_take (i := 8) (d := some 18) (l := #[true, true, true, true, true, true, true, true, true, false, false, false, false, false, false, false, false, false, false, false, false, false, false]) (fuel := 14) (v := ?_) rfl (by kernel_rfl) (by kernel_rfl) (by kernel_rfl) (by kernel_rfl) (by kernel_rfl) (fun _ _ _ h => h) (by kernel_rfl) ?_ (by assumption) ?_
  rotate_left 1
  · (intro wS hSw; (try dsimp only at hSw); go_simp; try with_reducible rfl)
  try simp only [Act.put, List.setIfInBounds_toArray, List.set_cons_zero, List.set_cons_succ]
  refine rg_take (i := 9) (d := some 19) (l := #[true, true, true, true, true, true, true, true, true, true, false, false, false, false, false, false, false, false, false, false, false, false, false]) (fuel := 13) (v := ?_) rfl (by kernel_rfl) (by kernel_rfl) (by kernel_rfl) (by kernel_rfl) (by kernel_rfl) (fun _ _ _ h => h) (by kernel_rfl) ?_ (by assumption) ?_
  rotate_left 1
  · (intro wS hSw; (try dsimp only at hSw); go_simp; try with_reducible rfl)
  try simp only [Act.put, List.setIfInBounds_toArray, List.set_cons_zero, List.set_cons_succ]
  refine rg_take (i := 10) (d := some 20) (l := #[true, true, true, true, true, true, true, true, true, true, true, false, false, false, false, false, false, false, false, false, false, false, false]) (fuel := 12) (v := ?_) rfl (by kernel_rfl) (by kernel_rfl) (by kernel_rfl) (by kernel_rfl) (by kernel_rfl) (fun _ _ _ h => h) (by kernel_rfl) ?_ (by assumption) ?_
  rotate_left 1
  · (intro wS hSw; (try dsimp only at hSw); go_simp; try with_reducible rfl)
  try simp only [Act.put, List.setIfInBounds_toArray, List.set_cons_zero, List.set_cons_succ]
  refine rg_take (i := 11) (d := some 21) (l := #[true, true, true, true, true, true, true, true, true, true, true, true, false, false, false, false, false, false, false, false, false, false, false]) (fuel := 11) (v := ?_) rfl (by kernel_rfl) (by kernel_rfl) (by kernel_rfl) (by kernel_rfl) (by kernel_rfl) (fun _ _ _ h => h) (by kernel_rfl) ?_ (by assumption) ?_
  rotate_left 1
  · (intro wS hSw; (try dsimp only at hSw); go_simp; try with_reducible rfl)
  try simp only [Act.put, List.setIfInBounds_toArray, List.set_cons_zero, List.set_cons_succ]
  refine rg_take (i := 12) (d := some 22) (l := #[true, true, true, true, true, true, true, true, true, true, true, true, true, false, false, false, false, false, false, false, false, false, false]) (fuel := 10) (v := ?_) rfl (by kernel_rfl) (by kernel_rfl) (by kernel_rfl) (by kernel_rfl) (by kernel_rfl) (fun _ _ _ h => h) (by kernel_rfl) ?_ (by assumption) ?_
  rotate_left 1
  · (intro wS hSw; (try dsimp only at hSw); go_simp; try with_reducible rfl)
  try simp only [Act.put, List.setIfInBounds_toArray, List.set_cons_zero, List.set_cons_succ]
  refine rg_take (i := 13) (d := some 23) (l := #[true, true, true, true, true, true, true, true, true, true, true, true, true, true, false, false, false, false, false, false, false, false, false]) (fuel := 9) (v := ?_) rfl (by kernel_rfl) (by kernel_rfl) (by kernel_rfl) (by kernel_rfl) (by kernel_rfl) (fun _ _ _ h => h) (by kernel_rfl) ?_ (by assumption) ?_
  rotate_left 1
  · (intro wS hSw; (try dsimp only at hSw); go_simp; try with_reducible rfl)
  try simp only [Act.put, List.setIfInBounds_toArray, List.set_cons_zero, List.set_cons_succ]
  refine rg_take (i := 14) (d := some 24) (l := #[true, true, true, true, true, true, true, true, true, true, true, true, true, true, true, false, false, false, false, false, false, false, false]) (fuel := 8) (v := ?_) rfl (by kernel_rfl) (by kernel_rfl) (by kernel_rfl) (by kernel_rfl) (by kernel_rfl) (fun _ _ _ h => h) (by kernel_rfl) ?_ (by assumption) ?_
  rotate_left 1
  · (intro wS hSw; (try dsimp only at hSw); go_simp; try with_reducible rfl)
  try simp only [Act.put, List.setIfInBounds_toArray, List.set_cons_zero, List.set_cons_succ]
  refine rg_take (i := 15) (d := some 25) (l := #[true, true, true, true, true, true, true, true, true, true, true, true, true, true, true, true, false, false, false, false, false, false, false]) (fuel := 7) (v := ?_) rfl (by kernel_rfl) (by kernel_rfl) (by kernel_rfl) (by kernel_rfl) (by kernel_rfl) (fun _ _ _ h => h) (by kernel_rfl) ?_ (by assumption) ?_
  rotate_left 1
  · (intro wS hSw; (try dsimp only at hSw); go_simp; try with_reducible rfl)
  try simp only [Act.put, List.setIfInBounds_toArray, List.set_cons_zero, List.set_cons_succ]
  refine rg_of (rs := [16, 20]) (fuel := 6) (by kernel_rfl) rfl ?_
  refine rg_step (i := 16) (l := #[true, true, true, true, true, true, true, true, true, true, true, true, true, true, true, true, true, false, false, false, false, false, false]) rfl (by kernel_rfl) (by kernel_rfl) ?_ ?_
  · intro K hK
    go_simp
    go_at_call 19
    refine (HA.out _).mono ?_
    rintro e w2 ⟨rfl, hb⟩
    have H2 := Lib.hid (H1.out.drew_.below hb H1.out.drew_.lt)
    have HB2 := Lib.hid (HB1.out.drew.trans (hb.mono HB1.out.drew.size))
    have HT2 := Lib.hid (BKd.below (w := w1.drew) HT1.out hb)
    clear hb H1 HB1 HT1
    first | (refine hK.out _ _ ?_ (fun hHeld => ?_)) | (go_wp2_with fail; refine hK.out _ _ ?_ (fun hHeld => ?_))
    · (try dsimp only); exact bw_of H2.out
    clear hK K
    try simp only [Act.put, List.setIfInBounds_toArray, List.set_cons_zero, List.set_cons_succ]
    refine rg_take (i := 17) (d := some 9) (l := #[true, true, true, true, true, true, true, true, true, true, true, true, true, true, true, true, true, true, false, false, false, false, false]) (fuel := 5) (v := ?_) rfl (by kernel_rfl) (by kernel_rfl) (by kernel_rfl) (by kernel_rfl) (by kernel_rfl) (fun _ _ _ h => h) (by kernel_rfl) ?_ (by assumption) ?_
    rotate_left 1
    · (intro wS hSw; (try dsimp only at hSw); go_simp; try with_reducible rfl)
    try simp only [Act.put, List.setIfInBounds_toArray, List.set_cons_zero, List.set_cons_succ]
    refine rg_take (i := 18) (d := some 27) (l := #[true, true, true, true, true, true, true, true, true, true, true, true, true, true, true, true, true, true, true, false, false, false, false]) (fuel := 4) (v := ?_) rfl (by kernel_rfl) (by kernel_rfl) (by kernel_rfl) (by kernel_rfl) (by kernel_rfl) (fun _ _ _ h => h) (by kernel_rfl) ?_ (by assumption) ?_
    rotate_left 1
    · (intro wS hSw; (try dsimp only at hSw); go_simp; try with_reducible rfl)
    try simp only [Act.put, List.setIfInBounds_toArray, List.set_cons_zero, List.set_cons_succ]
    refine rg_take (i := 19) (d := some 28) (l := #[true, true, true, true, true, true, true, true, true, true, true, true, true, true, true, true, true, true, true, true, false, false, false]) (fuel := 3) (v := ?_) rfl (by kernel_rfl) (by kernel_rfl) (by kernel_rfl) (by kernel_rfl) (by kernel_rfl) (fun _ _ _ h => h) (by kernel_rfl) ?_ (by assumption) ?_
    rotate_left 1
    · (intro wS hSw; (try dsimp only at hSw); go_simp; try with_reducible rfl)
    try simp only [Act.put, List.setIfInBounds_toArray, List.set_cons_zero, List.set_cons_succ]
    refine rg_next (i := 20) (l := #[true, true, true, true, true, true, true, true, true, true, true, true, true, true, true, true, true, true, true, true, true, false, false]) (fuel := 2) (by kernel_rfl) rfl (by kernel_rfl) (by kernel_rfl) (fun K hK => ?_)
    go_simp
    have N3 := Lib.hid (Blk.new w2 48 #[.int .u16 0, .int .u16 0])
    have H3 := Lib.hid (Blk.alloc H2.out (.cells #[.int .u16 0, .int .u16 0] 48))
    have HB3 := Lib.hid (HB2.out.alloc HB2.out.size (.cells #[.int .u16 0, .int .u16 0] 48))
    have HT3 := Lib.hid (HT2.out.below ((Below.refl _ w2).alloc (Nat.le_refl _) (.cells #[.int .u16 0, .int .u16 0] 48)))
    first | (refine hK.out _ _ ?_ (fun hHeld => ?_)) | (go_wp2_with fail; refine hK.out _ _ ?_ (fun hHeld => ?_))
    · (try dsimp only); exact bw_of H3.out
    clear hK K
    try simp only [Act.put, List.setIfInBounds_toArray, List.set_cons_zero, List.set_cons_succ]
    have m0 := N3.out.cell 0
    have m1 := N3.out.cell 1
    have y0 := N3.out.frozen 0
    have y1 := N3.out.frozen 1
    generalize World.alloc w2 _ = w3 at *
    refine rg_next (i := 21) (l := #[true, true, true, true, true, true, true, true, true, true, true, true, true, true, true, true, true, true, true, true, true, true, false]) (fuel := 1) (by kernel_rfl) rfl (by kernel_rfl) (by kernel_rfl) (fun K hK => ?_)
    go_simp
    have X := Lib.hid (mv_stored xf xt N3.out H3.out HB3.out HT3.out HB2.out.size HG.out)
    first | (refine hK.out _ _ ?_ (fun hHeld => ?_)) | (go_wp2_with fail; refine hK.out _ _ ?_ (fun hHeld => ?_))
    · (try dsimp only); exact bw_of X.out.2.1
    clear hK K
    try simp only [Act.put, List.setIfInBounds_toArray, List.set_cons_zero, List.set_cons_succ]
    clear m0 m1 y0 y1 H3 HB3 HT3 N3
    generalize World.setCell (World.setCell w3 _ _) _ _ = w4 at *
    generalize w2.heap.size = gm at *
    clear H2 HB2 HT2
    refine rg_take (i := 22) (d := some 5) (l := #[true, true, true, true, true, true, true, true, true, true, true, true, true, true, true, true, true, true, true, true, true, true, true]) (fuel := 0) (v := ?_) rfl (by kernel_rfl) (by kernel_rfl) (by kernel_rfl) (by kernel_rfl) (by kernel_rfl) (fun _ _ _ h => h) (by kernel_rfl) ?_ (by assumption) ?_
    rotate_left 1
    · (intro wS hSw; (try dsimp only at hSw); go_simp; try with_reducible rfl)
    try simp only [Act.put, List.setIfInBounds_toArray, List.set_cons_zero, List.set_cons_succ]
    refine wpAnyH_done (by kernel_rfl) ?_ _
    have n0 := X.out.1.cell 0
    have n1 := X.out.1.cell 1
    go_wp2_with fail
    have A5 := Lib.hid (Blk.new w4 53 #[.int .u16 0, .int .u16 xf, .int .u16 0, .int .u16 0, .int .u16 xt, .int .u16 0])
    have H5 := Lib.hid (BuB.below X.out.2.1 ((Below.refl _ w4).alloc (Nat.le_refl _) (.cells #[.int .u16 0, .int .u16 xf, .int .u16 0, .int .u16 0, .int .u16 xt, .int .u16 0] 53)) X.out.2.1.lt)
    have T5 := Lib.hid (BKd.below X.out.2.2.2 ((Below.refl _ w4).alloc (Nat.le_refl _) (.cells #[.int .u16 0, .int .u16 xf, .int .u16 0, .int .u16 0, .int .u16 xt, .int .u16 0] 53)))
    have B5 := Lib.hid (X.out.2.2.1.alloc X.out.2.2.1.size (.cells #[.int .u16 0, .int .u16 xf, .int .u16 0, .int .u16 0, .int .u16 xt, .int .u16 0] 53))
    clear n0 n1 X
    generalize World.alloc w4 _ = w5 at *
    generalize w4.heap.size = ga at *
    have c5 : w5.cell? ⟨g, 5, none⟩ = some (.int .i64 1) := Blk.cell H5.out 5
    have ca : w5.cell? ⟨ga, 1, none⟩ = some (.int .u16 xf) := A5.out.cell 1
    have ct : w5.cell? ⟨0, 1, none⟩ = some (.int .u8 3) := T5.out.2 1 (by decide)
    go_quiet (fail)
    go_wp2
    go_ret2
    exact ⟨rfl, below_drewN B5.out _⟩
  refine rg_step (i := 20) (l := #[true, true, true, true, true, true, true, true, true, true, true, true, true, true, true, true, false, false, false, false, true, false, false]) rfl (by kernel_rfl) (by kernel_rfl) ?_ ?_
  · intro K hK
    go_simp
    have N3 := Lib.hid (Blk.new w1 48 #[.int .u16 0, .int .u16 0])
    have H3 := Lib.hid (Blk.alloc H1.out (.cells #[.int .u16 0, .int .u16 0] 48))
    have HB3 := Lib.hid (HB1.out.alloc HB1.out.size (.cells #[.int .u16 0, .int .u16 0] 48))
    have HT3 := Lib.hid (HT1.out.below ((Below.refl _ w1).alloc (Nat.le_refl _) (.cells #[.int .u16 0, .int .u16 0] 48)))
    first | (refine hK.out _ _ ?_ (fun hHeld => ?_)) | (go_wp2_with fail; refine hK.out _ _ ?_ (fun hHeld => ?_))
    · (try dsimp only); exact bw_of H3.out
    clear hK K
    try simp only [Act.put, List.setIfInBounds_toArray, List.set_cons_zero, List.set_cons_succ]
    have HGM := Lib.hid HB1.out.size
    clear H1 HB1 HT1
    generalize World.alloc w1 _ = w3 at *
    generalize w1.heap.size = gm at *
    refine rg_next (i := 16) (l := #[true, true, true, true, true, true, true, true, true, true, true, true, true, true, true, true, true, false, false, false, true, false, false]) (fuel := 5) (by kernel_rfl) rfl (by kernel_rfl) (by kernel_rfl) (fun K hK => ?_)
    go_simp
    go_at_call 19
    refine (HA.out _).mono ?_
    rintro e w2 ⟨rfl, hb⟩
    have H2 := Lib.hid (BuB.below (w := w3.drew) H3.out hb (BuB.lt (w := w3) H3.out))
    have HB2 := Lib.hid (HB3.out.drew.trans (hb.mono HB3.out.drew.size))
    have HT2 := Lib.hid (BKd.below (w := w3.drew) HT3.out hb)
    have N2 := Lib.hid (Blk.below (w := w3.drew) N3.out hb (Blk.lt (w := w3) N3.out))
    clear hb H3 HB3 HT3 N3
    first | (refine hK.out _ _ ?_ (fun hHeld => ?_)) | (go_wp2_with fail; refine hK.out _ _ ?_ (fun hHeld => ?_))
    · (try dsimp only); exact bw_of H2.out
    clear hK K
    try simp only [Act.put, List.setIfInBounds_toArray, List.set_cons_zero, List.set_cons_succ]
    have m0 := N2.out.cell 0
    have m1 := N2.out.cell 1
    have y0 := N2.out.frozen 0
    have y1 := N2.out.frozen 1
    refine rg_take (i := 17) (d := some 9) (l := #[true, true, true, true, true, true, true, true, true, true, true, true, true, true, true, true, true, true, false, false, true, false, false]) (fuel := 4) (v := ?_) rfl (by kernel_rfl) (by kernel_rfl) (by kernel_rfl) (by kernel_rfl) (by kernel_rfl) (fun _ _ _ h => h) (by kernel_rfl) ?_ (by assumption) ?_
    rotate_left 1
    · (intro wS hSw; (try dsimp only at hSw); go_simp; try with_reducible rfl)
    try simp only [Act.put, List.setIfInBounds_toArray, List.set_cons_zero, List.set_cons_succ]
    refine rg_take (i := 18) (d := some 27) (l := #[true, true, true, true, true, true, true, true, true, true, true, true, true, true, true, true, true, true, true, false, true, false, false]) (fuel := 3) (v := ?_) rfl (by kernel_rfl) (by kernel_rfl) (by kernel_rfl) (by kernel_rfl) (by kernel_rfl) (fun _ _ _ h => h) (by kernel_rfl) ?_ (by assumption) ?_
    rotate_left 1
    · (intro wS hSw; (try dsimp only at hSw); go_simp; try with_reducible rfl)
    try simp only [Act.put, List.setIfInBounds_toArray, List.set_cons_zero, List.set_cons_succ]
    refine rg_take (i := 19) (d := some 28) (l := #[true, true, true, true, true, true, true, true, true, true, true, true, true, true, true, true, true, true, true, true, true, false, false]) (fuel := 2) (v := ?_) rfl (by kernel_rfl) (by kernel_rfl) (by kernel_rfl) (by kernel_rfl) (by kernel_rfl) (fun _ _ _ h => h) (by kernel_rfl) ?_ (by assumption) ?_
    rotate_left 1
    · (intro wS hSw; (try dsimp only at hSw); go_simp; try with_reducible rfl)
    try simp only [Act.put, List.setIfInBounds_toArray, List.set_cons_zero, List.set_cons_succ]
    refine rg_next (i := 21) (l := #[true, true, true, true, true, true, true, true, true, true, true, true, true, true, true, true, true, true, true, true, true, true, false]) (fuel := 1) (by kernel_rfl) rfl (by kernel_rfl) (by kernel_rfl) (fun K hK => ?_)
    go_simp
    have X := Lib.hid (mv_stored xf xt N2.out H2.out HB2.out HT2.out HGM.out HG.out)
    first | (refine hK.out _ _ ?_ (fun hHeld => ?_)) | (go_wp2_with fail; refine hK.out _ _ ?_ (fun hHeld => ?_))
    · (try dsimp only); exact bw_of X.out.2.1
    clear hK K
    try simp only [Act.put, List.setIfInBounds_toArray, List.set_cons_zero, List.set_cons_succ]
    clear m0 m1 y0 y1 H2 HB2 HT2 N2
    generalize World.setCell (World.setCell w2 _ _) _ _ = w4 at *
    refine rg_take (i := 22) (d := some 5) (l := #[true, true, true, true, true, true, true, true, true, true, true, true, true, true, true, true, true, true, true, true, true, true, true]) (fuel := 0) (v := ?_) rfl (by kernel_rfl) (by kernel_rfl) (by kernel_rfl) (by kernel_rfl) (by kernel_rfl) (fun _ _ _ h => h) (by kernel_rfl) ?_ (by assumption) ?_
    rotate_left 1
    · (intro wS hSw; (try dsimp only at hSw); go_simp; try with_reducible rfl)
    try simp only [Act.put, List.setIfInBounds_toArray, List.set_cons_zero, List.set_cons_succ]
    refine wpAnyH_done (by kernel_rfl) ?_ _
    have n0 := X.out.1.cell 0
    have n1 := X.out.1.cell 1
    go_wp2_with fail
    have A5 := Lib.hid (Blk.new w4 53 #[.int .u16 0, .int .u16 xf, .int .u16 0, .int .u16 0, .int .u16 xt, .int .u16 0])
    have H5 := Lib.hid (BuB.below X.out.2.1 ((Below.refl _ w4).alloc (Nat.le_refl _) (.cells #[.int .u16 0, .int .u16 xf, .int .u16 0, .int .u16 0, .int .u16 xt, .int .u16 0] 53)) X.out.2.1.lt)
    have T5 := Lib.hid (BKd.below X.out.2.2.2 ((Below.refl _ w4).alloc (Nat.le_refl _) (.cells #[.int .u16 0, .int .u16 xf, .int .u16 0, .int .u16 0, .int .u16 xt, .int .u16 0] 53)))
    have B5 := Lib.hid (X.out.2.2.1.alloc X.out.2.2.1.size (.cells #[.int .u16 0, .int .u16 xf, .int .u16 0, .int .u16 0, .int .u16 xt, .int .u16 0] 53))
    clear n0 n1 X
    generalize World.alloc w4 _ = w5 at *
    generalize w4.heap.size = ga at *
    have c5 : w5.cell? ⟨g, 5, none⟩ = some (.int .i64 1) := Blk.cell H5.out 5
    have ca : w5.cell? ⟨ga, 1, none⟩ = some (.int .u16 xf) := A5.out.cell 1
    have ct : w5.cell? ⟨0, 1, none⟩ = some (.int .u8 3) := T5.out.2 1 (by decide)
    go_quiet (fail)
    go_wp2
    go_ret2
    exact ⟨rfl, below_drewN B5.out _⟩
  exact AllReadyH.nil
set_option maxHeartbeats 8000000 in
theorem bnext_2 {w : World} {g : Nat} {k b m : Nat} {f t d : Int} (h : BuB w g ⟨k, f, t, b, m, 2, d⟩) (ho : Bu.ok ⟨k, f, t, b, m, 2, d⟩) (hT : BKd w) (x : m ≠ b) : Calls Tryd.prog 12 #[.pointer (some ⟨g, 0, none⟩)] w fun e w' => e = .returned (.tuple #[.int .u8 2, .int .u16 0]) ∧ Below w.heap.size w w' := by
  have hD := bdone_any h ho
  rw [decide_eq_false x] at hD
  have hA := fun W => vat_any k f t (m : Int) ho.f0 ho.f1 ho.t0 ho.t1 (by omega) (by have := ho.m1; have := ho.b1; dsimp only at *; omega) W
  unfold atV at hA
  rw [if_pos ⟨ho.k5, by omega⟩] at hA
  generalize mvF k f (m : Int) = xf at *
  generalize mvT k t (m : Int) = xt at *
  have HA := Lib.hid hA
  have H := Lib.hid h
  have HD := Lib.hid hD
  have HT := Lib.hid hT
  have HG := Lib.hid hT.1
  clear h ho hD hT hA x
  go_enter Tryd.func12, Tryd.ntmps12
  go_upto_region 3 with (refine HD.out.mono ?_; rintro e w1 ⟨rfl, hb⟩; have H1 := Lib.hid (H.out.keep hb); have HB1 := Lib.hid hb; have HT1 := Lib.hid (HT.out.below hb); clear hb H HT)
  refine rg_begin (S := fun w' => w'.cell? ⟨g, 0, none⟩ = some (.int .u8 (k : Int)) ∧ w'.cell? ⟨g, 1, none⟩ = some (.int .u16 f) ∧ w'.cell? ⟨g, 2, none⟩ = some (.int .u16 t) ∧ w'.cell? ⟨g, 4, none⟩ = some (.int .i64 (m : Int))) 23 #[false, false, false, false, false, false, false, false, false, false, false, false, false, false, false, false, false, false, false, false, false, false, false] (by kernel_rfl) (by kernel_rfl) (by kernel_rfl) ?_ (fun hHeld => ?_)
  · exact bw_of H1.out.drew_
  refine rg_take (i := 0) (d := some 10) (l := #[true, false, false, false, false, false, false, false, false, false, false, false, false, false, false, false, false, false, false, false, false, false, false]) (fuel := 22) (v := ?_) rfl (by kernel_rfl) (by kernel_rfl) (by kernel_rfl) (by kernel_rfl) (by kernel_rfl) (fun _ _ _ h => h) (by kernel_rfl) ?_ (by assumption) ?_
  rotate_left 1
  · (intro wS hSw; (try dsimp only at hSw); go_simp; try with_reducible rfl)
  try simp only [Act.put, List.setIfInBounds_toArray, List.set_cons_zero, List.set_cons_succ]
  refine rg_take (i := 1) (d := some 11) (l := #[true, true, false, false, false, false, false, false, false, false, false, false, false, false, false, false, false, false, false, false, false, false, false]) (fuel := 21) (v := ?_) rfl (by kernel_rfl) (by kernel_rfl) (by kernel_rfl) (by kernel_rfl) (by kernel_rfl) (fun _ _ _ h => h) (by kernel_rfl) ?_ (by assumption) ?_
  rotate_left 1
  · (intro wS hSw; (try dsimp only at hSw); go_simp; try with_reducible rfl)
  try simp only [Act.put, List.setIfInBounds_toArray, List.set_cons_zero, List.set_cons_succ]
  refine rg_take (i := 2) (d := some 12) (l := #[true, true, true, false, false, false, false, false, false, false, false, false, false, false, false, false, false, false, false, false, false, false, false]) (fuel := 20) (v := ?_) rfl (by kernel_rfl) (by kernel_rfl) (by kernel_rfl) (by kernel_rfl) (by kernel_rfl) (fun _ _ _ h => h) (by kernel_rfl) ?_ (by assumption) ?_
  rotate_left 1
  · (intro wS hSw; (try dsimp only at hSw); go_simp; try with_reducible rfl)
  try simp only [Act.put, List.setIfInBounds_toArray, List.set_cons_zero, List.set_cons_succ]
  refine rg_take (i := 3) (d := some 13) (l := #[true, true, true, true, false, false, false, false, false, false, false, false, false, false, false, false, false, false, false, false, false, false, false]) (fuel := 19) (v := ?_) rfl (by kernel_rfl) (by kernel_rfl) (by kernel_rfl) (by kernel_rfl) (by kernel_rfl) (fun _ _ _ h => h) (by kernel_rfl) ?_ (by assumption) ?_
  rotate_left 1
  · (intro wS hSw; (try dsimp only at hSw); go_simp; try with_reducible rfl)
  try simp only [Act.put, List.setIfInBounds_toArray, List.set_cons_zero, List.set_cons_succ]
  refine rg_take (i := 4) (d := some 14) (l := #[true, true, true, true, true, false, false, false, false, false, false, false, false, false, false, false, false, false, false, false, false, false, false]) (fuel := 18) (v := ?_) rfl (by kernel_rfl) (by kernel_rfl) (by kernel_rfl) (by kernel_rfl) (by kernel_rfl) (fun _ _ _ h => h) (by kernel_rfl) ?_ (by assumption) ?_
  rotate_left 1
  · (intro wS hSw; (try dsimp only at hSw); go_simp; try with_reducible rfl)
  try simp only [Act.put, List.setIfInBounds_toArray, List.set_cons_zero, List.set_cons_succ]
  refine rg_take (i := 5) (d := some 15) (l := #[true, true, true, true, true, true, false, false, false, false, false, false, false, false, false, false, false, false, false, false, false, false, false]) (fuel := 17) (v := ?_) rfl (by kernel_rfl) (by kernel_rfl) (by kernel_rfl) (by kernel_rfl) (by kernel_rfl) (fun _ _ _ h => h) (by kernel_rfl) ?_ (by assumption) ?_
  rotate_left 1
  · (intro wS hSw; (try dsimp only at hSw); go_simp; try with_reducible rfl)
  try simp only [Act.put, List.setIfInBounds_toArray, List.set_cons_zero, List.set_cons_succ]
  refine rg_take (i := 6) (d := some 16) (l := #[true, true, true, true, true, true, true, false, false, false, false, false, false, false, false, false, false, false, false, false, false, false, false]) (fuel := 16) (v := ?_) rfl (by kernel_rfl) (by kernel_rfl) (by kernel_rfl) (by kernel_rfl) (by kernel_rfl) (fun _ _ _ h => h) (by kernel_rfl) ?_ (by assumption) ?_
  rotate_left 1
  · (intro wS hSw; (try dsimp only at hSw); go_simp; try with_reducible rfl)
  try simp only [Act.put, List.setIfInBounds_toArray, List.set_cons_zero, List.set_cons_succ]
  refine rg_take (i := 7) (d := some 17) (l := #[true, true, true, true, true, true, true, true, false, false, false, false, false, false, false, false, false, false, false, false, false, false, false]) (fuel := 15) (v := ?_) rfl (by kernel_rfl) (by kernel_rfl) (by kernel_rfl) (by kernel_rfl) (by kernel_rfl) (fun _ _ _ h => h) (by kernel_rfl) ?_ (by assumption) ?_
  rotate_left 1
  · (intro wS hSw; (try dsimp only at hSw); go_simp; try with_reducible rfl)
  try simp only [Act.put, List.setIfInBounds_toArray, List.set_cons_zero, List.set_cons_succ]
  refine rg_take (i := 8) (d := some 18) (l := #[true, true, true, true, true, true, true, true, true, false, false, false, false, false, false, false, false, false, false, false, false, false, false]) (fuel := 14) (v := ?_) rfl (by kernel_rfl) (by kernel_rfl) (by kernel_rfl) (by kernel_rfl) (by kernel_rfl) (fun _ _ _ h => h) (by kernel_rfl) ?_ (by assumption) ?_
  rotate_left 1
  · (intro wS hSw; (try dsimp only at hSw); go_simp; try with_reducible rfl)
  try simp only [Act.put, List.setIfInBounds_toArray, List.set_cons_zero, List.set_cons_succ]
  refine rg_take (i := 9) (d := some 19) (l := #[true, true, true, true, true, true, true, true, true, true, false, false, false, false, false, false, false, false, false, false, false, false, false]) (fuel := 13) (v := ?_) rfl (by kernel_rfl) (by kernel_rfl) (by kernel_rfl) (by kernel_rfl) (by kernel_rfl) (fun _ _ _ h => h) (by kernel_rfl) ?_ (by assumption) ?_
  rotate_left 1
  · (intro wS hSw; (try dsimp only at hSw); go_simp; try with_reducible rfl)
  try simp only [Act.put, List.setIfInBounds_toArray, List.set_cons_zero, List.set_cons_succ]
  refine rg_take (i := 10) (d := some 20) (l := #[true, true, true, true, true, true, true, true, true, true, true, false, false, false, false, false, false, false, false, false, false, false, false]) (fuel := 12) (v := ?_) rfl (by kernel_rfl) (by kernel_rfl) (by kernel_rfl) (by kernel_rfl) (by kernel_rfl) (fun _ _ _ h => h) (by kernel_rfl) ?_ (by assumption) ?_
  rotate_left 1
  · (intro wS hSw; (try dsimp only at hSw); go_simp; try with_reducible rfl)
  try simp only [Act.put, List.setIfInBounds_toArray, List.set_cons_zero, List.set_cons_succ]
  refine rg_take (i := 11) (d := some 21) (l := #[true, true, true, true, true, true, true, true, true, true, true, true, false, false, false, false, false, false, false, false, false, false, false]) (fuel := 11) (v := ?_) rfl (by kernel_rfl) (by kernel_rfl) (by kernel_rfl) (by kernel_rfl) (by kernel_rfl) (fun _ _ _ h => h) (by kernel_rfl) ?_ (by assumption) ?_
  rotate_left 1
  · (intro wS hSw; (try dsimp only at hSw); go_simp; try with_reducible rfl)
  try simp only [Act.put, List.setIfInBounds_toArray, List.set_cons_zero, List.set_cons_succ]
  refine rg_take (i := 12) (d := some 22) (l := #[true, true, true, true, true, true, true, true, true, true, true, true, true, false, false, false, false, false, false, false, false, false, false]) (fuel := 10) (v := ?_) rfl (by kernel_rfl) (by kernel_rfl) (by kernel_rfl) (by kernel_rfl) (by kernel_rfl) (fun _ _ _ h => h) (by kernel_rfl) ?_ (by assumption) ?_
  rotate_left 1
  · (intro wS hSw; (try dsimp only at hSw); go_simp; try with_reducible rfl)
  try simp only [Act.put, List.setIfInBounds_toArray, List.set_cons_zero, List.set_cons_succ]
  refine rg_take (i := 13) (d := some 23) (l := #[true, true, true, true, true, true, true, true, true, true, true, true, true, true, false, false, false, false, false, false, false, false, false]) (fuel := 9) (v := ?_) rfl (by kernel_rfl) (by kernel_rfl) (by kernel_rfl) (by kernel_rfl) (by kernel_rfl) (fun _ _ _ h => h) (by kernel_rfl) ?_ (by assumption) ?_
  rotate_left 1
  · (intro wS hSw; (try dsimp only at hSw); go_simp; try with_reducible rfl)
  try simp only [Act.put, List.setIfInBounds_toArray, List.set_cons_zero, List.set_cons_succ]
  refine rg_take (i := 14) (d := some 24) (l := #[true, true, true, true, true, true, true, true, true, true, true, true, true, true, true, false, false, false, false, false, false, false, false]) (fuel := 8) (v := ?_) rfl (by kernel_rfl) (by kernel_rfl) (by kernel_rfl) (by kernel_rfl) (by kernel_rfl) (fun _ _ _ h => h) (by kernel_rfl) ?_ (by assumption) ?_
  rotate_left 1
  · (intro wS hSw; (try dsimp only at hSw); go_simp; try with_reducible rfl)
  try simp only [Act.put, List.setIfInBounds_toArray, List.set_cons_zero, List.set_cons_succ]
  refine rg_take (i := 15) (d := some 25) (l := #[true, true, true, true, true, true, true, true, true, true, true, true, true, true, true, true, false, false, false, false, false, false, false]) (fuel := 7) (v := ?_) rfl (by kernel_rfl) (by kernel_rfl) (by kernel_rfl) (by kernel_rfl) (by kernel_rfl) (fun _ _ _ h => h) (by kernel_rfl) ?_ (by assumption) ?_
  rotate_left 1
  · (intro wS hSw; (try dsimp only at hSw); go_simp; try with_reducible rfl)
  try simp only [Act.put, List.setIfInBounds_toArray, List.set_cons_zero, List.set_cons_succ]
  refine rg_of (rs := [16, 20]) (fuel := 6) (by kernel_rfl) rfl ?_
  refine rg_step (i := 16) (l := #[true, true, true, true, true, true, true, true, true, true, true, true, true, true, true, true, true, false, false, false, false, false, false]) rfl (by kernel_rfl) (by kernel_rfl) ?_ ?_
  · intro K hK
    go_simp
    go_at_call 19
    refine (HA.out _).mono ?_
    rintro e w2 ⟨rfl, hb⟩
    have H2 := Lib.hid (H1.out.drew_.below hb H1.out.drew_.lt)
    have HB2 := Lib.hid (HB1.out.drew.trans (hb.mono HB1.out.drew.size))
    have HT2 := Lib.hid (BKd.below (w := w1.drew) HT1.out hb)
    clear hb H1 HB1 HT1
    first | (refine hK.out _ _ ?_ (fun hHeld => ?_)) | (go_wp2_with fail; refine hK.out _ _ ?_ (fun hHeld => ?_))
    · (try dsimp only); exact bw_of H2.out
    clear hK K
    try simp only [Act.put, List.setIfInBounds_toArray, List.set_cons_zero, List.set_cons_succ]
    refine rg_take (i := 17) (d := some 9) (l := #[true, true, true, true, true, true, true, true, true, true, true, true, true, true, true, true, true, true, false, false, false, false, false]) (fuel := 5) (v := ?_) rfl (by kernel_rfl) (by kernel_rfl) (by kernel_rfl) (by kernel_rfl) (by kernel_rfl) (fun _ _ _ h => h) (by kernel_rfl) ?_ (by assumption) ?_
    rotate_left 1
    · (intro wS hSw; (try dsimp only at hSw); go_simp; try with_reducible rfl)
    try simp only [Act.put, List.setIfInBounds_toArray, List.set_cons_zero, List.set_cons_succ]
    refine rg_take (i := 18) (d := some 27) (l := #[true, true, true, true, true, true, true, true, true, true, true, true, true, true, true, true, true, true, true, false, false, false, false]) (fuel := 4) (v := ?_) rfl (by kernel_rfl) (by kernel_rfl) (by kernel_rfl) (by kernel_rfl) (by kernel_rfl) (fun _ _ _ h => h) (by kernel_rfl) ?_ (by assumption) ?_
    rotate_left 1
    · (intro wS hSw; (try dsimp only at hSw); go_simp; try with_reducible rfl)
    try simp only [Act.put, List.setIfInBounds_toArray, List.set_cons_zero, List.set_cons_succ]
    refine rg_take (i := 19) (d := some 28) (l := #[true, true, true, true, true, true, true, true, true, true, true, true, true, true, true, true, true, true, true, true, false, false, false]) (fuel := 3) (v := ?_) rfl (by kernel_rfl) (by kernel_rfl) (by kernel_rfl) (by kernel_rfl) (by kernel_rfl) (fun _ _ _ h => h) (by kernel_rfl) ?_ (by assumption) ?_
    rotate_left 1
    · (intro wS hSw; (try dsimp only at hSw); go_simp; try with_reducible rfl)
    try simp only [Act.put, List.setIfInBounds_toArray, List.set_cons_zero, List.set_cons_succ]
    refine rg_next (i := 20) (l := #[true, true, true, true, true, true, true, true, true, true, true, true, true, true, true, true, true, true, true, true, true, false, false]) (fuel := 2) (by kernel_rfl) rfl (by kernel_rfl) (by kernel_rfl) (fun K hK => ?_)
    go_simp
    have N3 := Lib.hid (Blk.new w2 48 #[.int .u16 0, .int .u16 0])
    have H3 := Lib.hid (Blk.alloc H2.out (.cells #[.int .u16 0, .int .u16 0] 48))
    have HB3 := Lib.hid (HB2.out.alloc HB2.out.size (.cells #[.int .u16 0, .int .u16 0] 48))
    have HT3 := Lib.hid (HT2.out.below ((Below.refl _ w2).alloc (Nat.le_refl _) (.cells #[.int .u16 0, .int .u16 0] 48)))
    first | (refine hK.out _ _ ?_ (fun hHeld => ?_)) | (go_wp2_with fail; refine hK.out _ _ ?_ (fun hHeld => ?_))
    · (try dsimp only); exact bw_of H3.out
    clear hK K
    try simp only [Act.put, List.setIfInBounds_toArray, List.set_cons_zero, List.set_cons_succ]
    have m0 := N3.out.cell 0
    have m1 := N3.out.cell 1
    have y0 := N3.out.frozen 0
    have y1 := N3.out.frozen 1
    generalize World.alloc w2 _ = w3 at *
    refine rg_next (i := 21) (l := #[true, true, true, true, true, true, true, true, true, true, true, true, true, true, true, true, true, true, true, true, true, true, false]) (fuel := 1) (by kernel_rfl) rfl (by kernel_rfl) (by kernel_rfl) (fun K hK => ?_)
    go_simp
    have X := Lib.hid (mv_stored xf xt N3.out H3.out HB3.out HT3.out HB2.out.size HG.out)
    first | (refine hK.out _ _ ?_ (fun hHeld => ?_)) | (go_wp2_with fail; refine hK.out _ _ ?_ (fun hHeld => ?_))
    · (try dsimp only); exact bw_of X.out.2.1
    clear hK K
    try simp only [Act.put, List.setIfInBounds_toArray, List.set_cons_zero, List.set_cons_succ]
    clear m0 m1 y0 y1 H3 HB3 HT3 N3
    generalize World.setCell (World.setCell w3 _ _) _ _ = w4 at *
    generalize w2.heap.size = gm at *
    clear H2 HB2 HT2
    refine rg_take (i := 22) (d := some 5) (l := #[true, true, true, true, true, true, true, true, true, true, true, true, true, true, true, true, true, true, true, true, true, true, true]) (fuel := 0) (v := ?_) rfl (by kernel_rfl) (by kernel_rfl) (by kernel_rfl) (by kernel_rfl) (by kernel_rfl) (fun _ _ _ h => h) (by kernel_rfl) ?_ (by assumption) ?_
    rotate_left 1
    · (intro wS hSw; (try dsimp only at hSw); go_simp; try with_reducible rfl)
    try simp only [Act.put, List.setIfInBounds_toArray, List.set_cons_zero, List.set_cons_succ]
    refine wpAnyH_done (by kernel_rfl) ?_ _
    have n0 := X.out.1.cell 0
    have n1 := X.out.1.cell 1
    go_wp2_with fail
    have A5 := Lib.hid (Blk.new w4 53 #[.int .u16 0, .int .u16 xf, .int .u16 0, .int .u16 0, .int .u16 xt, .int .u16 0])
    have H5 := Lib.hid (BuB.below X.out.2.1 ((Below.refl _ w4).alloc (Nat.le_refl _) (.cells #[.int .u16 0, .int .u16 xf, .int .u16 0, .int .u16 0, .int .u16 xt, .int .u16 0] 53)) X.out.2.1.lt)
    have T5 := Lib.hid (BKd.below X.out.2.2.2 ((Below.refl _ w4).alloc (Nat.le_refl _) (.cells #[.int .u16 0, .int .u16 xf, .int .u16 0, .int .u16 0, .int .u16 xt, .int .u16 0] 53)))
    have B5 := Lib.hid (X.out.2.2.1.alloc X.out.2.2.1.size (.cells #[.int .u16 0, .int .u16 xf, .int .u16 0, .int .u16 0, .int .u16 xt, .int .u16 0] 53))
    clear n0 n1 X
    generalize World.alloc w4 _ = w5 at *
    generalize w4.heap.size = ga at *
    have c5 : w5.cell? ⟨g, 5, none⟩ = some (.int .i64 2) := Blk.cell H5.out 5
    have ca : w5.cell? ⟨ga, 2, none⟩ = some (.int .u16 0) := A5.out.cell 2
    have ct : w5.cell? ⟨0, 2, none⟩ = some (.int .u8 2) := T5.out.2 2 (by decide)
    go_quiet (fail)
    go_wp2
    go_ret2
    exact ⟨rfl, below_drewN B5.out _⟩
  refine rg_step (i := 20) (l := #[true, true, true, true, true, true, true, true, true, true, true, true, true, true, true, true, false, false, false, false, true, false, false]) rfl (by kernel_rfl) (by kernel_rfl) ?_ ?_
  · intro K hK
    go_simp
    have N3 := Lib.hid (Blk.new w1 48 #[.int .u16 0, .int .u16 0])
    have H3 := Lib.hid (Blk.alloc H1.out (.cells #[.int .u16 0, .int .u16 0] 48))
    have HB3 := Lib.hid (HB1.out.alloc HB1.out.size (.cells #[.int .u16 0, .int .u16 0] 48))
    have HT3 := Lib.hid (HT1.out.below ((Below.refl _ w1).alloc (Nat.le_refl _) (.cells #[.int .u16 0, .int .u16 0] 48)))
    first | (refine hK.out _ _ ?_ (fun hHeld => ?_)) | (go_wp2_with fail; refine hK.out _ _ ?_ (fun hHeld => ?_))
    · (try dsimp only); exact bw_of H3.out
    clear hK K
    try simp only [Act.put, List.setIfInBounds_toArray, List.set_cons_zero, List.set_cons_succ]
    have HGM := Lib.hid HB1.out.size
    clear H1 HB1 HT1
    generalize World.alloc w1 _ = w3 at *
    generalize w1.heap.size = gm at *
    refine rg_next (i := 16) (l := #[true, true, true, true, true, true, true, true, true, true, true, true, true, true, true, true, true, false, false, false, true, false, false]) (fuel := 5) (by kernel_rfl) rfl (by kernel_rfl) (by kernel_rfl) (fun K hK => ?_)
    go_simp
    go_at_call 19
    refine (HA.out _).mono ?_
    rintro e w2 ⟨rfl, hb⟩
    have H2 := Lib.hid (BuB.below (w := w3.drew) H3.out hb (BuB.lt (w := w3) H3.out))
    have HB2 := Lib.hid (HB3.out.drew.trans (hb.mono HB3.out.drew.size))
    have HT2 := Lib.hid (BKd.below (w := w3.drew) HT3.out hb)
    have N2 := Lib.hid (Blk.below (w := w3.drew) N3.out hb (Blk.lt (w := w3) N3.out))
    clear hb H3 HB3 HT3 N3
    first | (refine hK.out _ _ ?_ (fun hHeld => ?_)) | (go_wp2_with fail; refine hK.out _ _ ?_ (fun hHeld => ?_))
    · (try dsimp only); exact bw_of H2.out
    clear hK K
    try simp only [Act.put, List.setIfInBounds_toArray, List.set_cons_zero, List.set_cons_succ]
    have m0 := N2.out.cell 0
    have m1 := N2.out.cell 1
    have y0 := N2.out.frozen 0
    have y1 := N2.out.frozen 1
    refine rg_take (i := 17) (d := some 9) (l := #[true, true, true, true, true, true, true, true, true, true, true, true, true, true, true, true, true, true, false, false, true, false, false]) (fuel := 4) (v := ?_) rfl (by kernel_rfl) (by kernel_rfl) (by kernel_rfl) (by kernel_rfl) (by kernel_rfl) (fun _ _ _ h => h) (by kernel_rfl) ?_ (by assumption) ?_
    rotate_left 1
    · (intro wS hSw; (try dsimp only at hSw); go_simp; try with_reducible rfl)
    try simp only [Act.put, List.setIfInBounds_toArray, List.set_cons_zero, List.set_cons_succ]
    refine rg_take (i := 18) (d := some 27) (l := #[true, true, true, true, true, true, true, true, true, true, true, true, true, true, true, true, true, true, true, false, true, false, false]) (fuel := 3) (v := ?_) rfl (by kernel_rfl) (by kernel_rfl) (by kernel_rfl) (by kernel_rfl) (by kernel_rfl) (fun _ _ _ h => h) (by kernel_rfl) ?_ (by assumption) ?_
    rotate_left 1
    · (intro wS hSw; (try dsimp only at hSw); go_simp; try with_reducible rfl)
    try simp only [Act.put, List.setIfInBounds_toArray, List.set_cons_zero, List.set_cons_succ]
    refine rg_take (i := 19) (d := some 28) (l := #[true, true, true, true, true, true, true, true, true, true, true, true, true, true, true, true, true, true, true, true, true, false, false]) (fuel := 2) (v := ?_) rfl (by kernel_rfl) (by kernel_rfl) (by kernel_rfl) (by kernel_rfl) (by kernel_rfl) (fun _ _ _ h => h) (by kernel_rfl) ?_ (by assumption) ?_
    rotate_left 1
    · (intro wS hSw; (try dsimp only at hSw); go_simp; try with_reducible rfl)
    try simp only [Act.put, List.setIfInBounds_toArray, List.set_cons_zero, List.set_cons_succ]
    refine rg_next (i := 21) (l := #[true, true, true, true, true, true, true, true, true, true, true, true, true, true, true, true, true, true, true, true, true, true, false]) (fuel := 1) (by kernel_rfl) rfl (by kernel_rfl) (by kernel_rfl) (fun K hK => ?_)
    go_simp
    have X := Lib.hid (mv_stored xf xt N2.out H2.out HB2.out HT2.out HGM.out HG.out)
    first | (refine hK.out _ _ ?_ (fun hHeld => ?_)) | (go_wp2_with fail; refine hK.out _ _ ?_ (fun hHeld => ?_))
    · (try dsimp only); exact bw_of X.out.2.1
    clear hK K
    try simp only [Act.put, List.setIfInBounds_toArray, List.set_cons_zero, List.set_cons_succ]
    clear m0 m1 y0 y1 H2 HB2 HT2 N2
    generalize World.setCell (World.setCell w2 _ _) _ _ = w4 at *
    refine rg_take (i := 22) (d := some 5) (l := #[true, true, true, true, true, true, true, true, true, true, true, true, true, true, true, true, true, true, true, true, true, true, true]) (fuel := 0) (v := ?_) rfl (by kernel_rfl) (by kernel_rfl) (by kernel_rfl) (by kernel_rfl) (by kernel_rfl) (fun _ _ _ h => h) (by kernel_rfl) ?_ (by assumption) ?_
    rotate_left 1
    · (intro wS hSw; (try dsimp only at hSw); go_simp; try with_reducible rfl)
    try simp only [Act.put, List.setIfInBounds_toArray, List.set_cons_zero, List.set_cons_succ]
    refine wpAnyH_done (by kernel_rfl) ?_ _
    have n0 := X.out.1.cell 0
    have n1 := X.out.1.cell 1
    go_wp2_with fail
    have A5 := Lib.hid (Blk.new w4 53 #[.int .u16 0, .int .u16 xf, .int .u16 0, .int .u16 0, .int .u16 xt, .int .u16 0])
    have H5 := Lib.hid (BuB.below X.out.2.1 ((Below.refl _ w4).alloc (Nat.le_refl _) (.cells #[.int .u16 0, .int .u16 xf, .int .u16 0, .int .u16 0, .int .u16 xt, .int .u16 0] 53)) X.out.2.1.lt)
    have T5 := Lib.hid (BKd.below X.out.2.2.2 ((Below.refl _ w4).alloc (Nat.le_refl _) (.cells #[.int .u16 0, .int .u16 xf, .int .u16 0, .int .u16 0, .int .u16 xt, .int .u16 0] 53)))
    have B5 := Lib.hid (X.out.2.2.1.alloc X.out.2.2.1.size (.cells #[.int .u16 0, .int .u16 xf, .int .u16 0, .int .u16 0, .int .u16 xt, .int .u16 0] 53))
    clear n0 n1 X
    generalize World.alloc w4 _ = w5 at *
    generalize w4.heap.size = ga at *
    have c5 : w5.cell? ⟨g, 5, none⟩ = some (.int .i64 2) := Blk.cell H5.out 5
    have ca : w5.cell? ⟨ga, 2, none⟩ = some (.int .u16 0) := A5.out.cell 2
    have ct : w5.cell? ⟨0, 2, none⟩ = some (.int .u8 2) := T5.out.2 2 (by decide)
    go_quiet (fail)
    go_wp2
    go_ret2
    exact ⟨rfl, below_drewN B5.out _⟩
  exact AllReadyH.nil
set_option maxHeartbeats 8000000 in
theorem bnext_3 {w : World} {g : Nat} {k b m : Nat} {f t d : Int} (h : BuB w g ⟨k, f, t, b, m, 3, d⟩) (ho : Bu.ok ⟨k, f, t, b, m, 3, d⟩) (hT : BKd w) (x : m ≠ b) : Calls Tryd.prog 12 #[.pointer (some ⟨g, 0, none⟩)] w fun e w' => e = .returned (.tuple #[.int .u8 2, .int .u16 0]) ∧ Below w.heap.size w w' := by
  have hD := bdone_any h ho
  rw [decide_eq_false x] at hD
  have hA := fun W => vat_any k f t (m : Int) ho.f0 ho.f1 ho.t0 ho.t1 (by omega) (by have := ho.m1; have := ho.b1; dsimp only at *; omega) W
  unfold atV at hA
  rw [if_pos ⟨ho.k5, by omega⟩] at hA
  generalize mvF k f (m : Int) = xf at *
  generalize mvT k t (m : Int) = xt at *
  have HA := Lib.hid hA
  have H := Lib.hid h
  have HD := Lib.hid hD
  have HT := Lib.hid hT
  have HG := Lib.hid hT.1
  clear h ho hD hT hA x
  go_enter Tryd.func12, Tryd.ntmps12
  go_upto_region 3 with (refine HD.out.mono ?_; rintro e w1 ⟨rfl, hb⟩; have H1 := Lib.hid (H.out.keep hb); have HB1 := Lib.hid hb; have HT1 := Lib.hid (HT.out.below hb); clear hb H HT)
  refine rg_begin (S := fun w' => w'.cell? ⟨g, 0, none⟩ = some (.int .u8 (k : Int)) ∧ w'.cell? ⟨g, 1, none⟩ = some (.int .u16 f) ∧ w'.cell? ⟨g, 2, none⟩ = some (.int .u16 t) ∧ w'.cell? ⟨g, 4, none⟩ = some (.int .i64 (m : Int))) 23 #[false, false, false, false, false, false, false, false, false, false, false, false, false, false, false, false, false, false, false, false, false, false, false] (by kernel_rfl) (by kernel_rfl) (by kernel_rfl) ?_ (fun hHeld => ?_)
  · exact bw_of H1.out.drew_
  refine rg_take (i := 0) (d := some 10) (l := #[true, false, false, false, false, false, false, false, false, false, false, false, false, false, false, false, false, false, false, false, false, false, false]) (fuel := 22) (v := ?_) rfl (by kernel_rfl) (by kernel_rfl) (by kernel_rfl) (by kernel_rfl) (by kernel_rfl) (fun _ _ _ h => h) (by kernel_rfl) ?_ (by assumption) ?_
  rotate_left 1
  · (intro wS hSw; (try dsimp only at hSw); go_simp; try with_reducible rfl)
  try simp only [Act.put, List.setIfInBounds_toArray, List.set_cons_zero, List.set_cons_succ]
  refine rg_take (i := 1) (d := some 11) (l := #[true, true, false, false, false, false, false, false, false, false, false, false, false, false, false, false, false, false, false, false, false, false, false]) (fuel := 21) (v := ?_) rfl (by kernel_rfl) (by kernel_rfl) (by kernel_rfl) (by kernel_rfl) (by kernel_rfl) (fun _ _ _ h => h) (by kernel_rfl) ?_ (by assumption) ?_
  rotate_left 1
  · (intro wS hSw; (try dsimp only at hSw); go_simp; try with_reducible rfl)
  try simp only [Act.put, List.setIfInBounds_toArray, List.set_cons_zero, List.set_cons_succ]
  refine rg_take (i := 2) (d := some 12) (l := #[true, true, true, false, false, false, false, false, false, false, false, false, false, false, false, false, false, false, false, false, false, false, false]) (fuel := 20) (v := ?_) rfl (by kernel_rfl) (by kernel_rfl) (by kernel_rfl) (by kernel_rfl) (by kernel_rfl) (fun _ _ _ h => h) (by kernel_rfl) ?_ (by assumption) ?_
  rotate_left 1
  · (intro wS hSw; (try dsimp only at hSw); go_simp; try with_reducible rfl)
  try simp only [Act.put, List.setIfInBounds_toArray, List.set_cons_zero, List.set_cons_succ]
  refine rg_take (i := 3) (d := some 13) (l := #[true, true, true, true, false, false, false, false, false, false, false, false, false, false, false, false, false, false, false, false, false, false, false]) (fuel := 19) (v := ?_) rfl (by kernel_rfl) (by kernel_rfl) (by kernel_rfl) (by kernel_rfl) (by kernel_rfl) (fun _ _ _ h => h) (by kernel_rfl) ?_ (by assumption) ?_
  rotate_left 1
  · (intro wS hSw; (try dsimp only at hSw); go_simp; try with_reducible rfl)
  try simp only [Act.put, List.setIfInBounds_toArray, List.set_cons_zero, List.set_cons_succ]
  refine rg_take (i := 4) (d := some 14) (l := #[true, true, true, true, true, false, false, false, false, false, false, false, false, false, false, false, false, false, false, false, false, false, false]) (fuel := 18) (v := ?_) rfl (by kernel_rfl) (by kernel_rfl) (by kernel_rfl) (by kernel_rfl) (by kernel_rfl) (fun _ _ _ h => h) (by kernel_rfl) ?_ (by assumption) ?_
  rotate_left 1
  · (intro wS hSw; (try dsimp only at hSw); go_simp; try with_reducible rfl)
  try simp only [Act.put, List.setIfInBounds_toArray, List.set_cons_zero, List.set_cons_succ]
  refine rg_take (i := 5) (d := some 15) (l := #[true, true, true, true, true, true, false, false, false, false, false, false, false, false, false, false, false, false, false, false, false, false, false]) (fuel := 17) (v := ?_) rfl (by kernel_rfl) (by kernel_rfl) (by kernel_rfl) (by kernel_rfl) (by kernel_rfl) (fun _ _ _ h => h) (by kernel_rfl) ?_ (by assumption) ?_
  rotate_left 1
  · (intro wS hSw; (try dsimp only at hSw); go_simp; try with_reducible rfl)
  try simp only [Act.put, List.setIfInBounds_toArray, List.set_cons_zero, List.set_cons_succ]
  refine rg_take (i := 6) (d := some 16) (l := #[true, true, true, true, true, true, true, false, false, false, false, false, false, false, false, false, false, false, false, false, false, false, false]) (fuel := 16) (v := ?_) rfl (by kernel_rfl) (by kernel_rfl) (by kernel_rfl) (by kernel_rfl) (by kernel_rfl) (fun _ _ _ h => h) (by kernel_rfl) ?_ (by assumption) ?_
  rotate_left 1
  · (intro wS hSw; (try dsimp only at hSw); go_simp; try with_reducible rfl)
  try simp only [Act.put, List.setIfInBounds_toArray, List.set_cons_zero, List.set_cons_succ]
  refine rg_take (i := 7) (d := some 17) (l := #[true, true, true, true, true, true, true, true, false, false, false, false, false, false, false, false, false, false, false, false, false, false, false]) (fuel := 15) (v := ?_) rfl (by kernel_rfl) (by kernel_rfl) (by kernel_rfl) (by kernel_rfl) (by kernel_rfl) (fun _ _ _ h => h) (by kernel_rfl) ?_ (by assumption) ?_
  rotate_left 1
  · (intro wS hSw; (try dsimp only at hSw); go_simp; try with_reducible rfl)
  try simp only [Act.put, List.setIfInBounds_toArray, List.set_cons_zero, List.set_cons_succ]
  refine rg_take (i := 8) (d := some 18) (l := #[true, true, true, true, true, true, true, true, true, false, false, false, false, false, false, false, false, false, false, false, false, false, false]) (fuel := 14) (v := ?_) rfl (by kernel_rfl) (by kernel_rfl) (by kernel_rfl) (by kernel_rfl) (by kernel_rfl) (fun _ _ _ h => h) (by kernel_rfl) ?_ (by assumption) ?_
  rotate_left 1
  · (intro wS hSw; (try dsimp only at hSw); go_simp; try with_reducible rfl)
  try simp only [Act.put, List.setIfInBounds_toArray, List.set_cons_zero, List.set_cons_succ]
  refine rg_take (i := 9) (d := some 19) (l := #[true, true, true, true, true, true, true, true, true, true, false, false, false, false, false, false, false, false, false, false, false, false, false]) (fuel := 13) (v := ?_) rfl (by kernel_rfl) (by kernel_rfl) (by kernel_rfl) (by kernel_rfl) (by kernel_rfl) (fun _ _ _ h => h) (by kernel_rfl) ?_ (by assumption) ?_
  rotate_left 1
  · (intro wS hSw; (try dsimp only at hSw); go_simp; try with_reducible rfl)
  try simp only [Act.put, List.setIfInBounds_toArray, List.set_cons_zero, List.set_cons_succ]
  refine rg_take (i := 10) (d := some 20) (l := #[true, true, true, true, true, true, true, true, true, true, true, false, false, false, false, false, false, false, false, false, false, false, false]) (fuel := 12) (v := ?_) rfl (by kernel_rfl) (by kernel_rfl) (by kernel_rfl) (by kernel_rfl) (by kernel_rfl) (fun _ _ _ h => h) (by kernel_rfl) ?_ (by assumption) ?_
  rotate_left 1
  · (intro wS hSw; (try dsimp only at hSw); go_simp; try with_reducible rfl)
  try simp only [Act.put, List.setIfInBounds_toArray, List.set_cons_zero, List.set_cons_succ]
  refine rg_take (i := 11) (d := some 21) (l := #[true, true, true, true, true, true, true, true, true, true, true, true, false, false, false, false, false, false, false, false, false, false, false]) (fuel := 11) (v := ?_) rfl (by kernel_rfl) (by kernel_rfl) (by kernel_rfl) (by kernel_rfl) (by kernel_rfl) (fun _ _ _ h => h) (by kernel_rfl) ?_ (by assumption) ?_
  rotate_left 1
  · (intro wS hSw; (try dsimp only at hSw); go_simp; try with_reducible rfl)
  try simp only [Act.put, List.setIfInBounds_toArray, List.set_cons_zero, List.set_cons_succ]
  refine rg_take (i := 12) (d := some 22) (l := #[true, true, true, true, true, true, true, true, true, true, true, true, true, false, false, false, false, false, false, false, false, false, false]) (fuel := 10) (v := ?_) rfl (by kernel_rfl) (by kernel_rfl) (by kernel_rfl) (by kernel_rfl) (by kernel_rfl) (fun _ _ _ h => h) (by kernel_rfl) ?_ (by assumption) ?_
  rotate_left 1
  · (intro wS hSw; (try dsimp only at hSw); go_simp; try with_reducible rfl)
  try simp only [Act.put, List.setIfInBounds_toArray, List.set_cons_zero, List.set_cons_succ]
  refine rg_take (i := 13) (d := some 23) (l := #[true, true, true, true, true, true, true, true, true, true, true, true, true, true, false, false, false, false, false, false, false, false, false]) (fuel := 9) (v := ?_) rfl (by kernel_rfl) (by kernel_rfl) (by kernel_rfl) (by kernel_rfl) (by kernel_rfl) (fun _ _ _ h => h) (by kernel_rfl) ?_ (by assumption) ?_
  rotate_left 1
  · (intro wS hSw; (try dsimp only at hSw); go_simp; try with_reducible rfl)
  try simp only [Act.put, List.setIfInBounds_toArray, List.set_cons_zero, List.set_cons_succ]
  refine rg_take (i := 14) (d := some 24) (l := #[true, true, true, true, true, true, true, true, true, true, true, true, true, true, true, false, false, false, false, false, false, false, false]) (fuel := 8) (v := ?_) rfl (by kernel_rfl) (by kernel_rfl) (by kernel_rfl) (by kernel_rfl) (by kernel_rfl) (fun _ _ _ h => h) (by kernel_rfl) ?_ (by assumption) ?_
  rotate_left 1
  · (intro wS hSw; (try dsimp only at hSw); go_simp; try with_reducible rfl)
  try simp only [Act.put, List.setIfInBounds_toArray, List.set_cons_zero, List.set_cons_succ]
  refine rg_take (i := 15) (d := some 25) (l := #[true, true, true, true, true, true, true, true, true, true, true, true, true, true, true, true, false, false, false, false, false, false, false]) (fuel := 7) (v := ?_) rfl (by kernel_rfl) (by kernel_rfl) (by kernel_rfl) (by kernel_rfl) (by kernel_rfl) (fun _ _ _ h => h) (by kernel_rfl) ?_ (by assumption) ?_
  rotate_left 1
  · (intro wS hSw; (try dsimp only at hSw); go_simp; try with_reducible rfl)
  try simp only [Act.put, List.setIfInBounds_toArray, List.set_cons_zero, List.set_cons_succ]
  refine rg_of (rs := [16, 20]) (fuel := 6) (by kernel_rfl) rfl ?_
  refine rg_step (i := 16) (l := #[true, true, true, true, true, true, true, true, true, true, true, true, true, true, true, true, true, false, false, false, false, false, false]) rfl (by kernel_rfl) (by kernel_rfl) ?_ ?_
  · intro K hK
    go_simp
    go_at_call 19
    refine (HA.out _).mono ?_
    rintro e w2 ⟨rfl, hb⟩
    have H2 := Lib.hid (H1.out.drew_.below hb H1.out.drew_.lt)
    have HB2 := Lib.hid (HB1.out.drew.trans (hb.mono HB1.out.drew.size))
    have HT2 := Lib.hid (BKd.below (w := w1.drew) HT1.out hb)
    clear hb H1 HB1 HT1
    first | (refine hK.out _ _ ?_ (fun hHeld => ?_)) | (go_wp2_with fail; refine hK.out _ _ ?_ (fun hHeld => ?_))
    · (try dsimp only); exact bw_of H2.out
    clear hK K
    try simp only [Act.put, List.setIfInBounds_toArray, List.set_cons_zero, List.set_cons_succ]
    refine rg_take (i := 17) (d := some 9) (l := #[true, true, true, true, true, true, true, true, true, true, true, true, true, true, true, true, true, true, false, false, false, false, false]) (fuel := 5) (v := ?_) rfl (by kernel_rfl) (by kernel_rfl) (by kernel_rfl) (by kernel_rfl) (by kernel_rfl) (fun _ _ _ h => h) (by kernel_rfl) ?_ (by assumption) ?_
    rotate_left 1
    · (intro wS hSw; (try dsimp only at hSw); go_simp; try with_reducible rfl)
    try simp only [Act.put, List.setIfInBounds_toArray, List.set_cons_zero, List.set_cons_succ]
    refine rg_take (i := 18) (d := some 27) (l := #[true, true, true, true, true, true, true, true, true, true, true, true, true, true, true, true, true, true, true, false, false, false, false]) (fuel := 4) (v := ?_) rfl (by kernel_rfl) (by kernel_rfl) (by kernel_rfl) (by kernel_rfl) (by kernel_rfl) (fun _ _ _ h => h) (by kernel_rfl) ?_ (by assumption) ?_
    rotate_left 1
    · (intro wS hSw; (try dsimp only at hSw); go_simp; try with_reducible rfl)
    try simp only [Act.put, List.setIfInBounds_toArray, List.set_cons_zero, List.set_cons_succ]
    refine rg_take (i := 19) (d := some 28) (l := #[true, true, true, true, true, true, true, true, true, true, true, true, true, true, true, true, true, true, true, true, false, false, false]) (fuel := 3) (v := ?_) rfl (by kernel_rfl) (by kernel_rfl) (by kernel_rfl) (by kernel_rfl) (by kernel_rfl) (fun _ _ _ h => h) (by kernel_rfl) ?_ (by assumption) ?_
    rotate_left 1
    · (intro wS hSw; (try dsimp only at hSw); go_simp; try with_reducible rfl)
    try simp only [Act.put, List.setIfInBounds_toArray, List.set_cons_zero, List.set_cons_succ]
    refine rg_next (i := 20) (l := #[true, true, true, true, true, true, true, true, true, true, true, true, true, true, true, true, true, true, true, true, true, false, false]) (fuel := 2) (by kernel_rfl) rfl (by kernel_rfl) (by kernel_rfl) (fun K hK => ?_)
    go_simp
    have N3 := Lib.hid (Blk.new w2 48 #[.int .u16 0, .int .u16 0])
    have H3 := Lib.hid (Blk.alloc H2.out (.cells #[.int .u16 0, .int .u16 0] 48))
    have HB3 := Lib.hid (HB2.out.alloc HB2.out.size (.cells #[.int .u16 0, .int .u16 0] 48))
    have HT3 := Lib.hid (HT2.out.below ((Below.refl _ w2).alloc (Nat.le_refl _) (.cells #[.int .u16 0, .int .u16 0] 48)))
    first | (refine hK.out _ _ ?_ (fun hHeld => ?_)) | (go_wp2_with fail; refine hK.out _ _ ?_ (fun hHeld => ?_))
    · (try dsimp only); exact bw_of H3.out
    clear hK K
    try simp only [Act.put, List.setIfInBounds_toArray, List.set_cons_zero, List.set_cons_succ]
    have m0 := N3.out.cell 0
    have m1 := N3.out.cell 1
    have y0 := N3.out.frozen 0
    have y1 := N3.out.frozen 1
    generalize World.alloc w2 _ = w3 at *
    refine rg_next (i := 21) (l := #[true, true, true, true, true, true, true, true, true, true, true, true, true, true, true, true, true, true, true, true, true, true, false]) (fuel := 1) (by kernel_rfl) rfl (by kernel_rfl) (by kernel_rfl) (fun K hK => ?_)
    go_simp
    have X := Lib.hid (mv_stored xf xt N3.out H3.out HB3.out HT3.out HB2.out.size HG.out)
    first | (refine hK.out _ _ ?_ (fun hHeld => ?_)) | (go_wp2_with fail; refine hK.out _ _ ?_ (fun hHeld => ?_))
    · (try dsimp only); exact bw_of X.out.2.1
    clear hK K
    try simp only [Act.put, List.setIfInBounds_toArray, List.set_cons_zero, List.set_cons_succ]
    clear m0 m1 y0 y1 H3 HB3 HT3 N3
    generalize World.setCell (World.setCell w3 _ _) _ _ = w4 at *
    generalize w2.heap.size = gm at *
    clear H2 HB2 HT2
    refine rg_take (i := 22) (d := some 5) (l := #[true, true, true, true, true, true, true, true, true, true, true, true, true, true, true, true, true, true, true, true, true, true, true]) (fuel := 0) (v := ?_) rfl (by kernel_rfl) (by kernel_rfl) (by kernel_rfl) (by kernel_rfl) (by kernel_rfl) (fun _ _ _ h => h) (by kernel_rfl) ?_ (by assumption) ?_
    rotate_left 1
    · (intro wS hSw; (try dsimp only at hSw); go_simp; try with_reducible rfl)
    try simp only [Act.put, List.setIfInBounds_toArray, List.set_cons_zero, List.set_cons_succ]
    refine wpAnyH_done (by kernel_rfl) ?_ _
    have n0 := X.out.1.cell 0
    have n1 := X.out.1.cell 1
    go_wp2_with fail
    have A5 := Lib.hid (Blk.new w4 53 #[.int .u16 0, .int .u16 xf, .int .u16 0, .int .u16 0, .int .u16 xt, .int .u16 0])
    have H5 := Lib.hid (BuB.below X.out.2.1 ((Below.refl _ w4).alloc (Nat.le_refl _) (.cells #[.int .u16 0, .int .u16 xf, .int .u16 0, .int .u16 0, .int .u16 xt, .int .u16 0] 53)) X.out.2.1.lt)
    have T5 := Lib.hid (BKd.below X.out.2.2.2 ((Below.refl _ w4).alloc (Nat.le_refl _) (.cells #[.int .u16 0, .int .u16 xf, .int .u16 0, .int .u16 0, .int .u16 xt, .int .u16 0] 53)))
    have B5 := Lib.hid (X.out.2.2.1.alloc X.out.2.2.1.size (.cells #[.int .u16 0, .int .u16 xf, .int .u16 0, .int .u16 0, .int .u16 xt, .int .u16 0] 53))
    clear n0 n1 X
    generalize World.alloc w4 _ = w5 at *
    generalize w4.heap.size = ga at *
    have c5 : w5.cell? ⟨g, 5, none⟩ = some (.int .i64 3) := Blk.cell H5.out 5
    have ca : w5.cell? ⟨ga, 3, none⟩ = some (.int .u16 0) := A5.out.cell 3
    have ct : w5.cell? ⟨0, 3, none⟩ = some (.int .u8 2) := T5.out.2 3 (by decide)
    go_quiet (fail)
    go_wp2
    go_ret2
    exact ⟨rfl, below_drewN B5.out _⟩
  refine rg_step (i := 20) (l := #[true, true, true, true, true, true, true, true, true, true, true, true, true, true, true, true, false, false, false, false, true, false, false]) rfl (by kernel_rfl) (by kernel_rfl) ?_ ?_
  · intro K hK
    go_simp
    have N3 := Lib.hid (Blk.new w1 48 #[.int .u16 0, .int .u16 0])
    have H3 := Lib.hid (Blk.alloc H1.out (.cells #[.int .u16 0, .int .u16 0] 48))
    have HB3 := Lib.hid (HB1.out.alloc HB1.out.size (.cells #[.int .u16 0, .int .u16 0] 48))
    have HT3 := Lib.hid (HT1.out.below ((Below.refl _ w1).alloc (Nat.le_refl _) (.cells #[.int .u16 0, .int .u16 0] 48)))
    first | (refine hK.out _ _ ?_ (fun hHeld => ?_)) | (go_wp2_with fail; refine hK.out _ _ ?_ (fun hHeld => ?_))
    · (try dsimp only); exact bw_of H3.out
    clear hK K
    try simp only [Act.put, List.setIfInBounds_toArray, List.set_cons_zero, List.set_cons_succ]
    have HGM := Lib.hid HB1.out.size
    clear H1 HB1 HT1
    generalize World.alloc w1 _ = w3 at *
    generalize w1.heap.size = gm at *
    refine rg_next (i := 16) (l := #[true, true, true, true, true, true, true, true, true, true, true, true, true, true, true, true, true, false, false, false, true, false, false]) (fuel := 5) (by kernel_rfl) rfl (by kernel_rfl) (by kernel_rfl) (fun K hK => ?_)
    go_simp
    go_at_call 19
    refine (HA.out _).mono ?_
    rintro e w2 ⟨rfl, hb⟩
    have H2 := Lib.hid (BuB.below (w := w3.drew) H3.out hb (BuB.lt (w := w3) H3.out))
    have HB2 := Lib.hid (HB3.out.drew.trans (hb.mono HB3.out.drew.size))
    have HT2 := Lib.hid (BKd.below (w := w3.drew) HT3.out hb)
    have N2 := Lib.hid (Blk.below (w := w3.drew) N3.out hb (Blk.lt (w := w3) N3.out))
    clear hb H3 HB3 HT3 N3
    first | (refine hK.out _ _ ?_ (fun hHeld => ?_)) | (go_wp2_with fail; refine hK.out _ _ ?_ (fun hHeld => ?_))
    · (try dsimp only); exact bw_of H2.out
    clear hK K
    try simp only [Act.put, List.setIfInBounds_toArray, List.set_cons_zero, List.set_cons_succ]
    have m0 := N2.out.cell 0
    have m1 := N2.out.cell 1
    have y0 := N2.out.frozen 0
    have y1 := N2.out.frozen 1
    refine rg_take (i := 17) (d := some 9) (l := #[true, true, true, true, true, true, true, true, true, true, true, true, true, true, true, true, true, true, false, false, true, false, false]) (fuel := 4) (v := ?_) rfl (by kernel_rfl) (by kernel_rfl) (by kernel_rfl) (by kernel_rfl) (by kernel_rfl) (fun _ _ _ h => h) (by kernel_rfl) ?_ (by assumption) ?_
    rotate_left 1
    · (intro wS hSw; (try dsimp only at hSw); go_simp; try with_reducible rfl)
    try simp only [Act.put, List.setIfInBounds_toArray, List.set_cons_zero, List.set_cons_succ]
    refine rg_take (i := 18) (d := some 27) (l := #[true, true, true, true, true, true, true, true, true, true, true, true, true, true, true, true, true, true, true, false, true, false, false]) (fuel := 3) (v := ?_) rfl (by kernel_rfl) (by kernel_rfl) (by kernel_rfl) (by kernel_rfl) (by kernel_rfl) (fun _ _ _ h => h) (by kernel_rfl) ?_ (by assumption) ?_
    rotate_left 1
    · (intro wS hSw; (try dsimp only at hSw); go_simp; try with_reducible rfl)
    try simp only [Act.put, List.setIfInBounds_toArray, List.set_cons_zero, List.set_cons_succ]
    refine rg_take (i := 19) (d := some 28) (l := #[true, true, true, true, true, true, true, true, true, true, true, true, true, true, true, true, true, true, true, true, true, false, false]) (fuel := 2) (v := ?_) rfl (by kernel_rfl) (by kernel_rfl) (by kernel_rfl) (by kernel_rfl) (by kernel_rfl) (fun _ _ _ h => h) (by kernel_rfl) ?_ (by assumption) ?_
    rotate_left 1
    · (intro wS hSw; (try dsimp only at hSw); go_simp; try with_reducible rfl)
    try simp only [Act.put, List.setIfInBounds_toArray, List.set_cons_zero, List.set_cons_succ]
    refine rg_next (i := 21) (l := #[true, true, true, true, true, true, true, true, true, true, true, true, true, true, true, true, true, true, true, true, true, true, false]) (fuel := 1) (by kernel_rfl) rfl (by kernel_rfl) (by kernel_rfl) (fun K hK => ?_)
    go_simp
    have X := Lib.hid (mv_stored xf xt N2.out H2.out HB2.out HT2.out HGM.out HG.out)
    first | (refine hK.out _ _ ?_ (fun hHeld => ?_)) | (go_wp2_with fail; refine hK.out _ _ ?_ (fun hHeld => ?_))
    · (try dsimp only); exact bw_of X.out.2.1
    clear hK K
    try simp only [Act.put, List.setIfInBounds_toArray, List.set_cons_zero, List.set_cons_succ]
    clear m0 m1 y0 y1 H2 HB2 HT2 N2
    generalize World.setCell (World.setCell w2 _ _) _ _ = w4 at *
    refine rg_take (i := 22) (d := some 5) (l := #[true, true, true, true, true, true, true, true, true, true, true, true, true, true, true, true, true, true, true, true, true, true, true]) (fuel := 0) (v := ?_) rfl (by kernel_rfl) (by kernel_rfl) (by kernel_rfl) (by kernel_rfl) (by kernel_rfl) (fun _ _ _ h => h) (by kernel_rfl) ?_ (by assumption) ?_
    rotate_left 1
    · (intro wS hSw; (try dsimp only at hSw); go_simp; try with_reducible rfl)
    try simp only [Act.put, List.setIfInBounds_toArray, List.set_cons_zero, List.set_cons_succ]
    refine wpAnyH_done (by kernel_rfl) ?_ _
    have n0 := X.out.1.cell 0
    have n1 := X.out.1.cell 1
    go_wp2_with fail
    have A5 := Lib.hid (Blk.new w4 53 #[.int .u16 0, .int .u16 xf, .int .u16 0, .int .u16 0, .int .u16 xt, .int .u16 0])
    have H5 := Lib.hid (BuB.below X.out.2.1 ((Below.refl _ w4).alloc (Nat.le_refl _) (.cells #[.int .u16 0, .int .u16 xf, .int .u16 0, .int .u16 0, .int .u16 xt, .int .u16 0] 53)) X.out.2.1.lt)
    have T5 := Lib.hid (BKd.below X.out.2.2.2 ((Below.refl _ w4).alloc (Nat.le_refl _) (.cells #[.int .u16 0, .int .u16 xf, .int .u16 0, .int .u16 0, .int .u16 xt, .int .u16 0] 53)))
    have B5 := Lib.hid (X.out.2.2.1.alloc X.out.2.2.1.size (.cells #[.int .u16 0, .int .u16 xf, .int .u16 0, .int .u16 0, .int .u16 xt, .int .u16 0] 53))
    clear n0 n1 X
    generalize World.alloc w4 _ = w5 at *
    generalize w4.heap.size = ga at *
    have c5 : w5.cell? ⟨g, 5, none⟩ = some (.int .i64 3) := Blk.cell H5.out 5
    have ca : w5.cell? ⟨ga, 3, none⟩ = some (.int .u16 0) := A5.out.cell 3
    have ct : w5.cell? ⟨0, 3, none⟩ = some (.int .u8 2) := T5.out.2 3 (by decide)
    go_quiet (fail)
    go_wp2
    go_ret2
    exact ⟨rfl, below_drewN B5.out _⟩
  exact AllReadyH.nil
set_option maxHeartbeats 8000000 in
theorem bnext_4 {w : World} {g : Nat} {k b m : Nat} {f t d : Int} (h : BuB w g ⟨k, f, t, b, m, 4, d⟩) (ho : Bu.ok ⟨k, f, t, b, m, 4, d⟩) (hT : BKd w) (x : m ≠ b) : Calls Tryd.prog 12 #[.pointer (some ⟨g, 0, none⟩)] w fun e w' => e = .returned (.tuple #[.int .u8 4, .int .u16 (mvT k t (m : Int))]) ∧ Below w.heap.size w w' := by
  have hD := bdone_any h ho
  rw [decide_eq_false x] at hD
  have hA := fun W => vat_any k f t (m : Int) ho.f0 ho.f1 ho.t0 ho.t1 (by omega) (by have := ho.m1; have := ho.b1; dsimp only at *; omega) W
  unfold atV at hA
  rw [if_pos ⟨ho.k5, by omega⟩] at hA
  generalize mvF k f (m : Int) = xf at *
  generalize mvT k t (m : Int) = xt at *
  have HA := Lib.hid hA
  have H := Lib.hid h
  have HD := Lib.hid hD
  have HT := Lib.hid hT
  have HG := Lib.hid hT.1
  clear h ho hD hT hA x
  go_enter Tryd.func12, Tryd.ntmps12
  go_upto_region 3 with (refine HD.out.mono ?_; rintro e w1 ⟨rfl, hb⟩; have H1 := Lib.hid (H.out.keep hb); have HB1 := Lib.hid hb; have HT1 := Lib.hid (HT.out.below hb); clear hb H HT)
  refine rg_begin (S := fun w' => w'.cell? ⟨g, 0, none⟩ = some (.int .u8 (k : Int)) ∧ w'.cell? ⟨g, 1, none⟩ = some (.int .u16 f) ∧ w'.cell? ⟨g, 2, none⟩ = some (.int .u16 t) ∧ w'.cell? ⟨g, 4, none⟩ = some (.int .i64 (m : Int))) 23 #[false, false, false, false, false, false, false, false, false, false, false, false, false, false, false, false, false, false, false, false, false, false, false] (by kernel_rfl) (by kernel_rfl) (by kernel_rfl) ?_ (fun hHeld => ?_)
  · exact bw_of H1.out.drew_
  refine rg_take (i := 0) (d := some 10) (l := #[true, false, false, false, false, false, false, false, false, false, false, false, false, false, false, false, false, false, false, false, false, false, false]) (fuel := 22) (v := ?_) rfl (by kernel_rfl) (by kernel_rfl) (by kernel_rfl) (by kernel_rfl) (by kernel_rfl) (fun _ _ _ h => h) (by kernel_rfl) ?_ (by assumption) ?_
  rotate_left 1
  · (intro wS hSw; (try dsimp only at hSw); go_simp; try with_reducible rfl)
  try simp only [Act.put, List.setIfInBounds_toArray, List.set_cons_zero, List.set_cons_succ]
  refine rg_take (i := 1) (d := some 11) (l := #[true, true, false, false, false, false, false, false, false, false, false, false, false, false, false, false, false, false, false, false, false, false, false]) (fuel := 21) (v := ?_) rfl (by kernel_rfl) (by kernel_rfl) (by kernel_rfl) (by kernel_rfl) (by kernel_rfl) (fun _ _ _ h => h) (by kernel_rfl) ?_ (by assumption) ?_
  rotate_left 1
  · (intro wS hSw; (try dsimp only at hSw); go_simp; try with_reducible rfl)
  try simp only [Act.put, List.setIfInBounds_toArray, List.set_cons_zero, List.set_cons_succ]
  refine rg_take (i := 2) (d := some 12) (l := #[true, true, true, false, false, false, false, false, false, false, false, false, false, false, false, false, false, false, false, false, false, false, false]) (fuel := 20) (v := ?_) rfl (by kernel_rfl) (by kernel_rfl) (by kernel_rfl) (by kernel_rfl) (by kernel_rfl) (fun _ _ _ h => h) (by kernel_rfl) ?_ (by assumption) ?_
  rotate_left 1
  · (intro wS hSw; (try dsimp only at hSw); go_simp; try with_reducible rfl)
  try simp only [Act.put, List.setIfInBounds_toArray, List.set_cons_zero, List.set_cons_succ]
  refine rg_take (i := 3) (d := some 13) (l := #[true, true, true, true, false, false, false, false, false, false, false, false, false, false, false, false, false, false, false, false, false, false, false]) (fuel := 19) (v := ?_) rfl (by kernel_rfl) (by kernel_rfl) (by kernel_rfl) (by kernel_rfl) (by kernel_rfl) (fun _ _ _ h => h) (by kernel_rfl) ?_ (by assumption) ?_
  rotate_left 1
  · (intro wS hSw; (try dsimp only at hSw); go_simp; try with_reducible rfl)
  try simp only [Act.put, List.setIfInBounds_toArray, List.set_cons_zero, List.set_cons_succ]
  refine rg_take (i := 4) (d := some 14) (l := #[true, true, true, true, true, false, false, false, false, false, false, false, false, false, false, false, false, false, false, false, false, false, false]) (fuel := 18) (v := ?_) rfl (by kernel_rfl) (by kernel_rfl) (by kernel_rfl) (by kernel_rfl) (by kernel_rfl) (fun _ _ _ h => h) (by kernel_rfl) ?_ (by assumption) ?_
  rotate_left 1
  · (intro wS hSw; (try dsimp only at hSw); go_simp; try with_reducible rfl)
  try simp only [Act.put, List.setIfInBounds_toArray, List.set_cons_zero, List.set_cons_succ]
  refine rg_take (i := 5) (d := some 15) (l := #[true, true, true, true, true, true, false, false, false, false, false, false, false, false, false, false, false, false, false, false, false, false, false]) (fuel := 17) (v := ?_) rfl (by kernel_rfl) (by kernel_rfl) (by kernel_rfl) (by kernel_rfl) (by kernel_rfl) (fun _ _ _ h => h) (by kernel_rfl) ?_ (by assumption) ?_
  rotate_left 1
  · (intro wS hSw; (try dsimp only at hSw); go_simp; try with_reducible rfl)
  try simp only [Act.put, List.setIfInBounds_toArray, List.set_cons_zero, List.set_cons_succ]
  refine rg_take (i := 6) (d := some 16) (l := #[true, true, true, true, true, true, true, false, false, false, false, false, false, false, false, false, false, false, false, false, false, false, false]) (fuel := 16) (v := ?_) rfl (by kernel_rfl) (by kernel_rfl) (by kernel_rfl) (by kernel_rfl) (by kernel_rfl) (fun _ _ _ h => h) (by kernel_rfl) ?_ (by assumption) ?_
  rotate_left 1
  · (intro wS hSw; (try dsimp only at hSw); go_simp; try with_reducible rfl)
  try simp only [Act.put, List.setIfInBounds_toArray, List.set_cons_zero, List.set_cons_succ]
  refine rg_take (i := 7) (d := some 17) (l := #[true, true, true, true, true, true, true, true, false, false, false, false, false, false, false, false, false, false, false, false, false, false, false]) (fuel := 15) (v := ?_) rfl (by kernel_rfl) (by kernel_rfl) (by kernel_rfl) (by kernel_rfl) (by kernel_rfl) (fun _ _ _ h => h) (by kernel_rfl) ?_ (by assumption) ?_
  rotate_left 1
  · (intro wS hSw; (try dsimp only at hSw); go_simp; try with_reducible rfl)
  try simp only [Act.put, List.setIfInBounds_toArray, List.set_cons_zero, List.set_cons_succ]
  refine rg_take (i := 8) (d := some 18) (l := #[true, true, true, true, true, true, true, true, true, false, false, false, false, false, false, false, false, false, false, false, false, false, false]) (fuel := 14) (v := ?_) rfl (by kernel_rfl) (by kernel_rfl) (by kernel_rfl) (by kernel_rfl) (by kernel_rfl) (fun _ _ _ h => h) (by kernel_rfl) ?_ (by assumption) ?_
  rotate_left 1
  · (intro wS hSw; (try dsimp only at hSw); go_simp; try with_reducible rfl)
  try simp only [Act.put, List.setIfInBounds_toArray, List.set_cons_zero, List.set_cons_succ]
  refine rg_take (i := 9) (d := some 19) (l := #[true, true, true, true, true, true, true, true, true, true, false, false, false, false, false, false, false, false, false, false, false, false, false]) (fuel := 13) (v := ?_) rfl (by kernel_rfl) (by kernel_rfl) (by kernel_rfl) (by kernel_rfl) (by kernel_rfl) (fun _ _ _ h => h) (by kernel_rfl) ?_ (by assumption) ?_
  rotate_left 1
  · (intro wS hSw; (try dsimp only at hSw); go_simp; try with_reducible rfl)
  try simp only [Act.put, List.setIfInBounds_toArray, List.set_cons_zero, List.set_cons_succ]
  refine rg_take (i := 10) (d := some 20) (l := #[true, true, true, true, true, true, true, true, true, true, true, false, false, false, false, false, false, false, false, false, false, false, false]) (fuel := 12) (v := ?_) rfl (by kernel_rfl) (by kernel_rfl) (by kernel_rfl) (by kernel_rfl) (by kernel_rfl) (fun _ _ _ h => h) (by kernel_rfl) ?_ (by assumption) ?_
  rotate_left 1
  · (intro wS hSw; (try dsimp only at hSw); go_simp; try with_reducible rfl)
  try simp only [Act.put, List.setIfInBounds_toArray, List.set_cons_zero, List.set_cons_succ]
  refine rg_take (i := 11) (d := some 21) (l := #[true, true, true, true, true, true, true, true, true, true, true, true, false, false, false, false, false, false, false, false, false, false, false]) (fuel := 11) (v := ?_) rfl (by kernel_rfl) (by kernel_rfl) (by kernel_rfl) (by kernel_rfl) (by kernel_rfl) (fun _ _ _ h => h) (by kernel_rfl) ?_ (by assumption) ?_
  rotate_left 1
  · (intro wS hSw; (try dsimp only at hSw); go_simp; try with_reducible rfl)
  try simp only [Act.put, List.setIfInBounds_toArray, List.set_cons_zero, List.set_cons_succ]
  refine rg_take (i := 12) (d := some 22) (l := #[true, true, true, true, true, true, true, true, true, true, true, true, true, false, false, false, false, false, false, false, false, false, false]) (fuel := 10) (v := ?_) rfl (by kernel_rfl) (by kernel_rfl) (by kernel_rfl) (by kernel_rfl) (by kernel_rfl) (fun _ _ _ h => h) (by kernel_rfl) ?_ (by assumption) ?_
  rotate_left 1
  · (intro wS hSw; (try dsimp only at hSw); go_simp; try with_reducible rfl)
  try simp only [Act.put, List.setIfInBounds_toArray, List.set_cons_zero, List.set_cons_succ]
  refine rg_take (i := 13) (d := some 23) (l := #[true, true, true, true, true, true, true, true, true, true, true, true, true, true, false, false, false, false, false, false, false, false, false]) (fuel := 9) (v := ?_) rfl (by kernel_rfl) (by kernel_rfl) (by kernel_rfl) (by kernel_rfl) (by kernel_rfl) (fun _ _ _ h => h) (by kernel_rfl) ?_ (by assumption) ?_
  rotate_left 1
  · (intro wS hSw; (try dsimp only at hSw); go_simp; try with_reducible rfl)
  try simp only [Act.put, List.setIfInBounds_toArray, List.set_cons_zero, List.set_cons_succ]
  refine rg_take (i := 14) (d := some 24) (l := #[true, true, true, true, true, true, true, true, true, true, true, true, true, true, true, false, false, false, false, false, false, false, false]) (fuel := 8) (v := ?_) rfl (by kernel_rfl) (by kernel_rfl) (by kernel_rfl) (by kernel_rfl) (by kernel_rfl) (fun _ _ _ h => h) (by kernel_rfl) ?_ (by assumption) ?_
  rotate_left 1
  · (intro wS hSw; (try dsimp only at hSw); go_simp; try with_reducible rfl)
  try simp only [Act.put, List.setIfInBounds_toArray, List.set_cons_zero, List.set_cons_succ]
  refine rg_take (i := 15) (d := some 25) (l := #[true, true, true, true, true, true, true, true, true, true, true, true, true, true, true, true, false, false, false, false, false, false, false]) (fuel := 7) (v := ?_) rfl (by kernel_rfl) (by kernel_rfl) (by kernel_rfl) (by kernel_rfl) (by kernel_rfl) (fun _ _ _ h => h) (by kernel_rfl) ?_ (by assumption) ?_
  rotate_left 1
  · (intro wS hSw; (try dsimp only at hSw); go_simp; try with_reducible rfl)
  try simp only [Act.put, List.setIfInBounds_toArray, List.set_cons_zero, List.set_cons_succ]
  refine rg_of (rs := [16, 20]) (fuel := 6) (by kernel_rfl) rfl ?_
  refine rg_step (i := 16) (l := #[true, true, true, true, true, true, true, true, true, true, true, true, true, true, true, true, true, false, false, false, false, false, false]) rfl (by kernel_rfl) (by kernel_rfl) ?_ ?_
  · intro K hK
    go_simp
    go_at_call 19
    refine (HA.out _).mono ?_
    rintro e w2 ⟨rfl, hb⟩
    have H2 := Lib.hid (H1.out.drew_.below hb H1.out.drew_.lt)
    have HB2 := Lib.hid (HB1.out.drew.trans (hb.mono HB1.out.drew.size))
    have HT2 := Lib.hid (BKd.below (w := w1.drew) HT1.out hb)
    clear hb H1 HB1 HT1
    first | (refine hK.out _ _ ?_ (fun hHeld => ?_)) | (go_wp2_with fail; refine hK.out _ _ ?_ (fun hHeld => ?_))
    · (try dsimp only); exact bw_of H2.out
    clear hK K
    try simp only [Act.put, List.setIfInBounds_toArray, List.set_cons_zero, List.set_cons_succ]
    refine rg_take (i := 17) (d := some 9) (l := #[true, true, true, true, true, true, true, true, true, true, true, true, true, true, true, true, true, true, false, false, false, false, false]) (fuel := 5) (v := ?_) rfl (by kernel_rfl) (by kernel_rfl) (by kernel_rfl) (by kernel_rfl) (by kernel_rfl) (fun _ _ _ h => h) (by kernel_rfl) ?_ (by assumption) ?_
    rotate_left 1
    · (intro wS hSw; (try dsimp only at hSw); go_simp; try with_reducible rfl)
    try simp only [Act.put, List.setIfInBounds_toArray, List.set_cons_zero, List.set_cons_succ]
    refine rg_take (i := 18) (d := some 27) (l := #[true, true, true, true, true, true, true, true, true, true, true, true, true, true, true, true, true, true, true, false, false, false, false]) (fuel := 4) (v := ?_) rfl (by kernel_rfl) (by kernel_rfl) (by kernel_rfl) (by kernel_rfl) (by kernel_rfl) (fun _ _ _ h => h) (by kernel_rfl) ?_ (by assumption) ?_
    rotate_left 1
    · (intro wS hSw; (try dsimp only at hSw); go_simp; try with_reducible rfl)
    try simp only [Act.put, List.setIfInBounds_toArray, List.set_cons_zero, List.set_cons_succ]
    refine rg_take (i := 19) (d := some 28) (l := #[true, true, true, true, true, true, true, true, true, true, true, true, true, true, true, true, true, true, true, true, false, false, false]) (fuel := 3) (v := ?_) rfl (by kernel_rfl) (by kernel_rfl) (by kernel_rfl) (by kernel_rfl) (by kernel_rfl) (fun _ _ _ h => h) (by kernel_rfl) ?_ (by assumption) ?_
    rotate_left 1
    · (intro wS hSw; (try dsimp only at hSw); go_simp; try with_reducible rfl)
    try simp only [Act.put, List.setIfInBounds_toArray, List.set_cons_zero, List.set_cons_succ]
    refine rg_next (i := 20) (l := #[true, true, true, true, true, true, true, true, true, true, true, true, true, true, true, true, true, true, true, true, true, false, false]) (fuel := 2) (by kernel_rfl) rfl (by kernel_rfl) (by kernel_rfl) (fun K hK => ?_)
    go_simp
    have N3 := Lib.hid (Blk.new w2 48 #[.int .u16 0, .int .u16 0])
    have H3 := Lib.hid (Blk.alloc H2.out (.cells #[.int .u16 0, .int .u16 0] 48))
    have HB3 := Lib.hid (HB2.out.alloc HB2.out.size (.cells #[.int .u16 0, .int .u16 0] 48))
    have HT3 := Lib.hid (HT2.out.below ((Below.refl _ w2).alloc (Nat.le_refl _) (.cells #[.int .u16 0, .int .u16 0] 48)))
    first | (refine hK.out _ _ ?_ (fun hHeld => ?_)) | (go_wp2_with fail; refine hK.out _ _ ?_ (fun hHeld => ?_))
    · (try dsimp only); exact bw_of H3.out
    clear hK K
    try simp only [Act.put, List.setIfInBounds_toArray, List.set_cons_zero, List.set_cons_succ]
    have m0 := N3.out.cell 0
    have m1 := N3.out.cell 1
    have y0 := N3.out.frozen 0
    have y1 := N3.out.frozen 1
    generalize World.alloc w2 _ = w3 at *
    refine rg_next (i := 21) (l := #[true, true, true, true, true, true, true, true, true, true, true, true, true, true, true, true, true, true, true, true, true, true, false]) (fuel := 1) (by kernel_rfl) rfl (by kernel_rfl) (by kernel_rfl) (fun K hK => ?_)
    go_simp
    have X := Lib.hid (mv_stored xf xt N3.out H3.out HB3.out HT3.out HB2.out.size HG.out)
    first | (refine hK.out _ _ ?_ (fun hHeld => ?_)) | (go_wp2_with fail; refine hK.out _ _ ?_ (fun hHeld => ?_))
    · (try dsimp only); exact bw_of X.out.2.1
    clear hK K
    try simp only [Act.put, List.setIfInBounds_toArray, List.set_cons_zero, List.set_cons_succ]
    clear m0 m1 y0 y1 H3 HB3 HT3 N3
    generalize World.setCell (World.setCell w3 _ _) _ _ = w4 at *
    generalize w2.heap.size = gm at *
    clear H2 HB2 HT2
    refine rg_take (i := 22) (d := some 5) (l := #[true, true, true, true, true, true, true, true, true, true, true, true, true, true, true, true, true, true, true, true, true, true, true]) (fuel := 0) (v := ?_) rfl (by kernel_rfl) (by kernel_rfl) (by kernel_rfl) (by kernel_rfl) (by kernel_rfl) (fun _ _ _ h => h) (by kernel_rfl) ?_ (by assumption) ?_
    rotate_left 1
    · (intro wS hSw; (try dsimp only at hSw); go_simp; try with_reducible rfl)
    try simp only [Act.put, List.setIfInBounds_toArray, List.set_cons_zero, List.set_cons_succ]
    refine wpAnyH_done (by kernel_rfl) ?_ _
    have n0 := X.out.1.cell 0
    have n1 := X.out.1.cell 1
    go_wp2_with fail
    have A5 := Lib.hid (Blk.new w4 53 #[.int .u16 0, .int .u16 xf, .int .u16 0, .int .u16 0, .int .u16 xt, .int .u16 0])
    have H5 := Lib.hid (BuB.below X.out.2.1 ((Below.refl _ w4).alloc (Nat.le_refl _) (.cells #[.int .u16 0, .int .u16 xf, .int .u16 0, .int .u16 0, .int .u16 xt, .int .u16 0] 53)) X.out.2.1.lt)
    have T5 := Lib.hid (BKd.below X.out.2.2.2 ((Below.refl _ w4).alloc (Nat.le_refl _) (.cells #[.int .u16 0, .int .u16 xf, .int .u16 0, .int .u16 0, .int .u16 xt, .int .u16 0] 53)))
    have B5 := Lib.hid (X.out.2.2.1.alloc X.out.2.2.1.size (.cells #[.int .u16 0, .int .u16 xf, .int .u16 0, .int .u16 0, .int .u16 xt, .int .u16 0] 53))
    clear n0 n1 X
    generalize World.alloc w4 _ = w5 at *
    generalize w4.heap.size = ga at *
    have c5 : w5.cell? ⟨g, 5, none⟩ = some (.int .i64 4) := Blk.cell H5.out 5
    have ca : w5.cell? ⟨ga, 4, none⟩ = some (.int .u16 xt) := A5.out.cell 4
    have ct : w5.cell? ⟨0, 4, none⟩ = some (.int .u8 4) := T5.out.2 4 (by decide)
    go_quiet (fail)
    go_wp2
    go_ret2
    exact ⟨rfl, below_drewN B5.out _⟩
  refine rg_step (i := 20) (l := #[true, true, true, true, true, true, true, true, true, true, true, true, true, true, true, true, false, false, false, false, true, false, false]) rfl (by kernel_rfl) (by kernel_rfl) ?_ ?_
  · intro K hK
    go_simp
    have N3 := Lib.hid (Blk.new w1 48 #[.int .u16 0, .int .u16 0])
    have H3 := Lib.hid (Blk.alloc H1.out (.cells #[.int .u16 0, .int .u16 0] 48))
    have HB3 := Lib.hid (HB1.out.alloc HB1.out.size (.cells #[.int .u16 0, .int .u16 0] 48))
    have HT3 := Lib.hid (HT1.out.below ((Below.refl _ w1).alloc (Nat.le_refl _) (.cells #[.int .u16 0, .int .u16 0] 48)))
    first | (refine hK.out _ _ ?_ (fun hHeld => ?_)) | (go_wp2_with fail; refine hK.out _ _ ?_ (fun hHeld => ?_))
    · (try dsimp only); exact bw_of H3.out
    clear hK K
    try simp only [Act.put, List.setIfInBounds_toArray, List.set_cons_zero, List.set_cons_succ]
    have HGM := Lib.hid HB1.out.size
    clear H1 HB1 HT1
    generalize World.alloc w1 _ = w3 at *
    generalize w1.heap.size = gm at *
    refine rg_next (i := 16) (l := #[true, true, true, true, true, true, true, true, true, true, true, true, true, true, true, true, true, false, false, false, true, false, false]) (fuel := 5) (by kernel_rfl) rfl (by kernel_rfl) (by kernel_rfl) (fun K hK => ?_)
    go_simp
    go_at_call 19
    refine (HA.out _).mono ?_
    rintro e w2 ⟨rfl, hb⟩
    have H2 := Lib.hid (BuB.below (w := w3.drew) H3.out hb (BuB.lt (w := w3) H3.out))
    have HB2 := Lib.hid (HB3.out.drew.trans (hb.mono HB3.out.drew.size))
    have HT2 := Lib.hid (BKd.below (w := w3.drew) HT3.out hb)
    have N2 := Lib.hid (Blk.below (w := w3.drew) N3.out hb (Blk.lt (w := w3) N3.out))
    clear hb H3 HB3 HT3 N3
    first | (refine hK.out _ _ ?_ (fun hHeld => ?_)) | (go_wp2_with fail; refine hK.out _ _ ?_ (fun hHeld => ?_))
    · (try dsimp only); exact bw_of H2.out
    clear hK K
    try simp only [Act.put, List.setIfInBounds_toArray, List.set_cons_zero, List.set_cons_succ]
    have m0 := N2.out.cell 0
    have m1 := N2.out.cell 1
    have y0 := N2.out.frozen 0
    have y1 := N2.out.frozen 1
    refine rg_take (i := 17) (d := some 9) (l := #[true, true, true, true, true, true, true, true, true, true, true, true, true, true, true, true, true, true, false, false, true, false, false]) (fuel := 4) (v := ?_) rfl (by kernel_rfl) (by kernel_rfl) (by kernel_rfl) (by kernel_rfl) (by kernel_rfl) (fun _ _ _ h => h) (by kernel_rfl) ?_ (by assumption) ?_
    rotate_left 1
    · (intro wS hSw; (try dsimp only at hSw); go_simp; try with_reducible rfl)
    try simp only [Act.put, List.setIfInBounds_toArray, List.set_cons_zero, List.set_cons_succ]
    refine rg_take (i := 18) (d := some 27) (l := #[true, true, true, true, true, true, true, true, true, true, true, true, true, true, true, true, true, true, true, false, true, false, false]) (fuel := 3) (v := ?_) rfl (by kernel_rfl) (by kernel_rfl) (by kernel_rfl) (by kernel_rfl) (by kernel_rfl) (fun _ _ _ h => h) (by kernel_rfl) ?_ (by assumption) ?_
    rotate_left 1
    · (intro wS hSw; (try dsimp only at hSw); go_simp; try with_reducible rfl)
    try simp only [Act.put, List.setIfInBounds_toArray, List.set_cons_zero, List.set_cons_succ]
    refine rg_take (i := 19) (d := some 28) (l := #[true, true, true, true, true, true, true, true, true, true, true, true, true, true, true, true, true, true, true, true, true, false, false]) (fuel := 2) (v := ?_) rfl (by kernel_rfl) (by kernel_rfl) (by kernel_rfl) (by kernel_rfl) (by kernel_rfl) (fun _ _ _ h => h) (by kernel_rfl) ?_ (by assumption) ?_
    rotate_left 1
    · (intro wS hSw; (try dsimp only at hSw); go_simp; try with_reducible rfl)
    try simp only [Act.put, List.setIfInBounds_toArray, List.set_cons_zero, List.set_cons_succ]
    refine rg_next (i := 21) (l := #[true, true, true, true, true, true, true, true, true, true, true, true, true, true, true, true, true, true, true, true, true, true, false]) (fuel := 1) (by kernel_rfl) rfl (by kernel_rfl) (by kernel_rfl) (fun K hK => ?_)
    go_simp
    have X := Lib.hid (mv_stored xf xt N2.out H2.out HB2.out HT2.out HGM.out HG.out)
    first | (refine hK.out _ _ ?_ (fun hHeld => ?_)) | (go_wp2_with fail; refine hK.out _ _ ?_ (fun hHeld => ?_))
    · (try dsimp only); exact bw_of X.out.2.1
    clear hK K
    try simp only [Act.put, List.setIfInBounds_toArray, List.set_cons_zero, List.set_cons_succ]
    clear m0 m1 y0 y1 H2 HB2 HT2 N2
    generalize World.setCell (World.setCell w2 _ _) _ _ = w4 at *
    refine rg_take (i := 22) (d := some 5) (l := #[true, true, true, true, true, true, true, true, true, true, true, true, true, true, true, true, true, true, true, true, true, true, true]) (fuel := 0) (v := ?_) rfl (by kernel_rfl) (by kernel_rfl) (by kernel_rfl) (by kernel_rfl) (by kernel_rfl) (fun _ _ _ h => h) (by kernel_rfl) ?_ (by assumption) ?_
    rotate_left 1
    · (intro wS hSw; (try dsimp only at hSw); go_simp; try with_reducible rfl)
    try simp only [Act.put, List.setIfInBounds_toArray, List.set_cons_zero, List.set_cons_succ]
    refine wpAnyH_done (by kernel_rfl) ?_ _
    have n0 := X.out.1.cell 0
    have n1 := X.out.1.cell 1
    go_wp2_with fail
    have A5 := Lib.hid (Blk.new w4 53 #[.int .u16 0, .int .u16 xf, .int .u16 0, .int .u16 0, .int .u16 xt, .int .u16 0])
    have H5 := Lib.hid (BuB.below X.out.2.1 ((Below.refl _ w4).alloc (Nat.le_refl _) (.cells #[.int .u16 0, .int .u16 xf, .int .u16 0, .int .u16 0, .int .u16 xt, .int .u16 0] 53)) X.out.2.1.lt)
    have T5 := Lib.hid (BKd.below X.out.2.2.2 ((Below.refl _ w4).alloc (Nat.le_refl _) (.cells #[.int .u16 0, .int .u16 xf, .int .u16 0, .int .u16 0, .int .u16 xt, .int .u16 0] 53)))
    have B5 := Lib.hid (X.out.2.2.1.alloc X.out.2.2.1.size (.cells #[.int .u16 0, .int .u16 xf, .int .u16 0, .int .u16 0, .int .u16 xt, .int .u16 0] 53))
    clear n0 n1 X
    generalize World.alloc w4 _ = w5 at *
    generalize w4.heap.size = ga at *
    have c5 : w5.cell? ⟨g, 5, none⟩ = some (.int .i64 4) := Blk.cell H5.out 5
    have ca : w5.cell? ⟨ga, 4, none⟩ = some (.int .u16 xt) := A5.out.cell 4
    have ct : w5.cell? ⟨0, 4, none⟩ = some (.int .u8 4) := T5.out.2 4 (by decide)
    go_quiet (fail)
    go_wp2
    go_ret2
    exact ⟨rfl, below_drewN B5.out _⟩
  exact AllReadyH.nil
set_option maxHeartbeats 8000000 in
theorem bnext_5 {w : World} {g : Nat} {k b m : Nat} {f t d : Int} (h : BuB w g ⟨k, f, t, b, m, 5, d⟩) (ho : Bu.ok ⟨k, f, t, b, m, 5, d⟩) (hT : BKd w) (x : m ≠ b) : Calls Tryd.prog 12 #[.pointer (some ⟨g, 0, none⟩)] w fun e w' => e = .returned (.tuple #[.int .u8 2, .int .u16 0]) ∧ Below w.heap.size w w' := by
  have hD := bdone_any h ho
  rw [decide_eq_false x] at hD
  have hA := fun W => vat_any k f t (m : Int) ho.f0 ho.f1 ho.t0 ho.t1 (by omega) (by have := ho.m1; have := ho.b1; dsimp only at *; omega) W
  unfold atV at hA
  rw [if_pos ⟨ho.k5, by omega⟩] at hA
  generalize mvF k f (m : Int) = xf at *
  generalize mvT k t (m : Int) = xt at *
  have HA := Lib.hid hA
  have H := Lib.hid h
  have HD := Lib.hid hD
  have HT := Lib.hid hT
  have HG := Lib.hid hT.1
  clear h ho hD hT hA x
  go_enter Tryd.func12, Tryd.ntmps12
  go_upto_region 3 with (refine HD.out.mono ?_; rintro e w1 ⟨rfl, hb⟩; have H1 := Lib.hid (H.out.keep hb); have HB1 := Lib.hid hb; have HT1 := Lib.hid (HT.out.below hb); clear hb H HT)
  refine rg_begin (S := fun w' => w'.cell? ⟨g, 0, none⟩ = some (.int .u8 (k : Int)) ∧ w'.cell? ⟨g, 1, none⟩ = some (.int .u16 f) ∧ w'.cell? ⟨g, 2, none⟩ = some (.int .u16 t) ∧ w'.cell? ⟨g, 4, none⟩ = some (.int .i64 (m : Int))) 23 #[false, false, false, false, false, false, false, false, false, false, false, false, false, false, false, false, false, false, false, false, false, false, false] (by kernel_rfl) (by kernel_rfl) (by kernel_rfl) ?_ (fun hHeld => ?_)
  · exact bw_of H1.out.drew_
  refine rg_take (i := 0) (d := some 10) (l := #[true, false, false, false, false, false, false, false, false, false, false, false, false, false, false, false, false, false, false, false, false, false, false]) (fuel := 22) (v := ?_) rfl (by kernel_rfl) (by kernel_rfl) (by kernel_rfl) (by kernel_rfl) (by kernel_rfl) (fun _ _ _ h => h) (by kernel_rfl) ?_ (by assumption) ?_
  rotate_left 1
  · (intro wS hSw; (try dsimp only at hSw); go_simp; try with_reducible rfl)
  try simp only [Act.put, List.setIfInBounds_toArray, List.set_cons_zero, List.set_cons_succ]
  refine rg_take (i := 1) (d := some 11) (l := #[true, true, false, false, false, false, false, false, false, false, false, false, false, false, false, false, false, false, false, false, false, false, false]) (fuel := 21) (v := ?_) rfl (by kernel_rfl) (by kernel_rfl) (by kernel_rfl) (by kernel_rfl) (by kernel_rfl) (fun _ _ _ h => h) (by kernel_rfl) ?_ (by assumption) ?_
  rotate_left 1
  · (intro wS hSw; (try dsimp only at hSw); go_simp; try with_reducible rfl)
  try simp only [Act.put, List.setIfInBounds_toArray, List.set_cons_zero, List.set_cons_succ]
  refine rg_take (i := 2) (d := some 12) (l := #[true, true, true, false, false, false, false, false, false, false, false, false, false, false, false, false, false, false, false, false, false, false, false]) (fuel := 20) (v := ?_) rfl (by kernel_rfl) (by kernel_rfl) (by kernel_rfl) (by kernel_rfl) (by kernel_rfl) (fun _ _ _ h => h) (by kernel_rfl) ?_ (by assumption) ?_
  rotate_left 1
  · (intro wS hSw; (try dsimp only at hSw); go_simp; try with_reducible rfl)
  try simp only [Act.put, List.setIfInBounds_toArray, List.set_cons_zero, List.set_cons_succ]
  refine rg_take (i := 3) (d := some 13) (l := #[true, true, true, true, false, false, false, false, false, false, false, false, false, false, false, false, false, false, false, false, false, false, false]) (fuel := 19) (v := ?_) rfl (by kernel_rfl) (by kernel_rfl) (by kernel_rfl) (by kernel_rfl) (by kernel_rfl) (fun _ _ _ h => h) (by kernel_rfl) ?_ (by assumption) ?_
  rotate_left 1
  · (intro wS hSw; (try dsimp only at hSw); go_simp; try with_reducible rfl)
  try simp only [Act.put, List.setIfInBounds_toArray, List.set_cons_zero, List.set_cons_succ]
  refine rg_take (i := 4) (d := some 14) (l := #[true, true, true, true, true, false, false, false, false, false, false, false, false, false, false, false, false, false, false, false, false, false, false]) (fuel := 18) (v := ?_) rfl (by kernel_rfl) (by kernel_rfl) (by kernel_rfl) (by kernel_rfl) (by kernel_rfl) (fun _ _ _ h => h) (by kernel_rfl) ?_ (by assumption) ?_
  rotate_left 1
  · (intro wS hSw; (try dsimp only at hSw); go_simp; try with_reducible rfl)
  try simp only [Act.put, List.setIfInBounds_toArray, List.set_cons_zero, List.set_cons_succ]
  refine rg_take (i := 5) (d := some 15) (l := #[true, true, true, true, true, true, false, false, false, false, false, false, false, false, false, false, false, false, false, false, false, false, false]) (fuel := 17) (v := ?_) rfl (by kernel_rfl) (by kernel_rfl) (by kernel_rfl) (by kernel_rfl) (by kernel_rfl) (fun _ _ _ h => h) (by kernel_rfl) ?_ (by assumption) ?_
  rotate_left 1
  · (intro wS hSw; (try dsimp only at hSw); go_simp; try with_reducible rfl)
  try simp only [Act.put, List.setIfInBounds_toArray, List.set_cons_zero, List.set_cons_succ]
  refine rg_take (i := 6) (d := some 16) (l := #[true, true, true, true, true, true, true, false, false, false, false, false, false, false, false, false, false, false, false, false, false, false, false]) (fuel := 16) (v := ?_) rfl (by kernel_rfl) (by kernel_rfl) (by kernel_rfl) (by kernel_rfl) (by kernel_rfl) (fun _ _ _ h => h) (by kernel_rfl) ?_ (by assumption) ?_
  rotate_left 1
  · (intro wS hSw; (try dsimp only at hSw); go_simp; try with_reducible rfl)
  try simp only [Act.put, List.setIfInBounds_toArray, List.set_cons_zero, List.set_cons_succ]
  refine rg_take (i := 7) (d := some 17) (l := #[true, true, true, true, true, true, true, true, false, false, false, false, false, false, false, false, false, false, false, false, false, false, false]) (fuel := 15) (v := ?_) rfl (by kernel_rfl) (by kernel_rfl) (by kernel_rfl) (by kernel_rfl) (by kernel_rfl) (fun _ _ _ h => h) (by kernel_rfl) ?_ (by assumption) ?_
  rotate_left 1
  · (intro wS hSw; (try dsimp only at hSw); go_simp; try with_reducible rfl)
  try simp only [Act.put, List.setIfInBounds_toArray, List.set_cons_zero, List.set_cons_succ]
  refine rg_take (i := 8) (d := some 18) (l := #[true, true, true, true, true, true, true, true, true, false, false, false, false, false, false, false, false, false, false, false, false, false, false]) (fuel := 14) (v := ?_) rfl (by kernel_rfl) (by kernel_rfl) (by kernel_rfl) (by kernel_rfl) (by kernel_rfl) (fun _ _ _ h => h) (by kernel_rfl) ?_ (by assumption) ?_
  rotate_left 1
  · (intro wS hSw; (try dsimp only at hSw); go_simp; try with_reducible rfl)
  try simp only [Act.put, List.setIfInBounds_toArray, List.set_cons_zero, List.set_cons_succ]
  refine rg_take (i := 9) (d := some 19) (l := #[true, true, true, true, true, true, true, true, true, true, false, false, false, false, false, false, false, false, false, false, false, false, false]) (fuel := 13) (v := ?_) rfl (by kernel_rfl) (by kernel_rfl) (by kernel_rfl) (by kernel_rfl) (by kernel_rfl) (fun _ _ _ h => h) (by kernel_rfl) ?_ (by assumption) ?_
  rotate_left 1
  · (intro wS hSw; (try dsimp only at hSw); go_simp; try with_reducible rfl)
  try simp only [Act.put, List.setIfInBounds_toArray, List.set_cons_zero, List.set_cons_succ]
  refine rg_take (i := 10) (d := some 20) (l := #[true, true, true, true, true, true, true, true, true, true, true, false, false, false, false, false, false, false, false, false, false, false, false]) (fuel := 12) (v := ?_) rfl (by kernel_rfl) (by kernel_rfl) (by kernel_rfl) (by kernel_rfl) (by kernel_rfl) (fun _ _ _ h => h) (by kernel_rfl) ?_ (by assumption) ?_
  rotate_left 1
  · (intro wS hSw; (try dsimp only at hSw); go_simp; try with_reducible rfl)
  try simp only [Act.put, List.setIfInBounds_toArray, List.set_cons_zero, List.set_cons_succ]
  refine rg_take (i := 11) (d := some 21) (l := #[true, true, true, true, true, true, true, true, true, true, true, true, false, false, false, false, false, false, false, false, false, false, false]) (fuel := 11) (v := ?_) rfl (by kernel_rfl) (by kernel_rfl) (by kernel_rfl) (by kernel_rfl) (by kernel_rfl) (fun _ _ _ h => h) (by kernel_rfl) ?_ (by assumption) ?_
  rotate_left 1
  · (intro wS hSw; (try dsimp only at hSw); go_simp; try with_reducible rfl)
  try simp only [Act.put, List.setIfInBounds_toArray, List.set_cons_zero, List.set_cons_succ]
  refine rg_take (i := 12) (d := some 22) (l := #[true, true, true, true, true, true, true, true, true, true, true, true, true, false, false, false, false, false, false, false, false, false, false]) (fuel := 10) (v := ?_) rfl (by kernel_rfl) (by kernel_rfl) (by kernel_rfl) (by kernel_rfl) (by kernel_rfl) (fun _ _ _ h => h) (by kernel_rfl) ?_ (by assumption) ?_
  rotate_left 1
  · (intro wS hSw; (try dsimp only at hSw); go_simp; try with_reducible rfl)
  try simp only [Act.put, List.setIfInBounds_toArray, List.set_cons_zero, List.set_cons_succ]
  refine rg_take (i := 13) (d := some 23) (l := #[true, true, true, true, true, true, true, true, true, true, true, true, true, true, false, false, false, false, false, false, false, false, false]) (fuel := 9) (v := ?_) rfl (by kernel_rfl) (by kernel_rfl) (by kernel_rfl) (by kernel_rfl) (by kernel_rfl) (fun _ _ _ h => h) (by kernel_rfl) ?_ (by assumption) ?_
  rotate_left 1
  · (intro wS hSw; (try dsimp only at hSw); go_simp; try with_reducible rfl)
  try simp only [Act.put, List.setIfInBounds_toArray, List.set_cons_zero, List.set_cons_succ]
  refine rg_take (i := 14) (d := some 24) (l := #[true, true, true, true, true, true, true, true, true, true, true, true, true, true, true, false, false, false, false, false, false, false, false]) (fuel := 8) (v := ?_) rfl (by kernel_rfl) (by kernel_rfl) (by kernel_rfl) (by kernel_rfl) (by kernel_rfl) (fun _ _ _ h => h) (by kernel_rfl) ?_ (by assumption) ?_
  rotate_left 1
  · (intro wS hSw; (try dsimp only at hSw); go_simp; try with_reducible rfl)
  try simp only [Act.put, List.setIfInBounds_toArray, List.set_cons_zero, List.set_cons_succ]
  refine rg_take (i := 15) (d := some 25) (l := #[true, true, true, true, true, true, true, true, true, true, true, true, true, true, true, true, false, false, false, false, false, false, false]) (fuel := 7) (v := ?_) rfl (by kernel_rfl) (by kernel_rfl) (by kernel_rfl) (by kernel_rfl) (by kernel_rfl) (fun _ _ _ h => h) (by kernel_rfl) ?_ (by assumption) ?_
  rotate_left 1
  · (intro wS hSw; (try dsimp only at hSw); go_simp; try with_reducible rfl)
  try simp only [Act.put, List.setIfInBounds_toArray, List.set_cons_zero, List.set_cons_succ]
  refine rg_of (rs := [16, 20]) (fuel := 6) (by kernel_rfl) rfl ?_
  refine rg_step (i := 16) (l := #[true, true, true, true, true, true, true, true, true, true, true, true, true, true, true, true, true, false, false, false, false, false, false]) rfl (by kernel_rfl) (by kernel_rfl) ?_ ?_
  · intro K hK
    go_simp
    go_at_call 19
    refine (HA.out _).mono ?_
    rintro e w2 ⟨rfl, hb⟩
    have H2 := Lib.hid (H1.out.drew_.below hb H1.out.drew_.lt)
    have HB2 := Lib.hid (HB1.out.drew.trans (hb.mono HB1.out.drew.size))
    have HT2 := Lib.hid (BKd.below (w := w1.drew) HT1.out hb)
    clear hb H1 HB1 HT1
    first | (refine hK.out _ _ ?_ (fun hHeld => ?_)) | (go_wp2_with fail; refine hK.out _ _ ?_ (fun hHeld => ?_))
    · (try dsimp only); exact bw_of H2.out
    clear hK K
    try simp only [Act.put, List.setIfInBounds_toArray, List.set_cons_zero, List.set_cons_succ]
    refine rg_take (i := 17) (d := some 9) (l := #[true, true, true, true, true, true, true, true, true, true, true, true, true, true, true, true, true, true, false, false, false, false, false]) (fuel := 5) (v := ?_) rfl (by kernel_rfl) (by kernel_rfl) (by kernel_rfl) (by kernel_rfl) (by kernel_rfl) (fun _ _ _ h => h) (by kernel_rfl) ?_ (by assumption) ?_
    rotate_left 1
    · (intro wS hSw; (try dsimp only at hSw); go_simp; try with_reducible rfl)
    try simp only [Act.put, List.setIfInBounds_toArray, List.set_cons_zero, List.set_cons_succ]
    refine rg_take (i := 18) (d := some 27) (l := #[true, true, true, true, true, true, true, true, true, true, true, true, true, true, true, true, true, true, true, false, false, false, false]) (fuel := 4) (v := ?_) rfl (by kernel_rfl) (by kernel_rfl) (by kernel_rfl) (by kernel_rfl) (by kernel_rfl) (fun _ _ _ h => h) (by kernel_rfl) ?_ (by assumption) ?_
    rotate_left 1
    · (intro wS hSw; (try dsimp only at hSw); go_simp; try with_reducible rfl)
    try simp only [Act.put, List.setIfInBounds_toArray, List.set_cons_zero, List.set_cons_succ]
    refine rg_take (i := 19) (d := some 28) (l := #[true, true, true, true, true, true, true, true, true, true, true, true, true, true, true, true, true, true, true, true, false, false, false]) (fuel := 3) (v := ?_) rfl (by kernel_rfl) (by kernel_rfl) (by kernel_rfl) (by kernel_rfl) (by kernel_rfl) (fun _ _ _ h => h) (by kernel_rfl) ?_ (by assumption) ?_
    rotate_left 1
    · (intro wS hSw; (try dsimp only at hSw); go_simp; try with_reducible rfl)
    try simp only [Act.put, List.setIfInBounds_toArray, List.set_cons_zero, List.set_cons_succ]
    refine rg_next (i := 20) (l := #[true, true, true, true, true, true, true, true, true, true, true, true, true, true, true, true, true, true, true, true, true, false, false]) (fuel := 2) (by kernel_rfl) rfl (by kernel_rfl) (by kernel_rfl) (fun K hK => ?_)
    go_simp
    have N3 := Lib.hid (Blk.new w2 48 #[.int .u16 0, .int .u16 0])
    have H3 := Lib.hid (Blk.alloc H2.out (.cells #[.int .u16 0, .int .u16 0] 48))
    have HB3 := Lib.hid (HB2.out.alloc HB2.out.size (.cells #[.int .u16 0, .int .u16 0] 48))
    have HT3 := Lib.hid (HT2.out.below ((Below.refl _ w2).alloc (Nat.le_refl _) (.cells #[.int .u16 0, .int .u16 0] 48)))
    first | (refine hK.out _ _ ?_ (fun hHeld => ?_)) | (go_wp2_with fail; refine hK.out _ _ ?_ (fun hHeld => ?_))
    · (try dsimp only); exact bw_of H3.out
    clear hK K
    try simp only [Act.put, List.setIfInBounds_toArray, List.set_cons_zero, List.set_cons_succ]
    have m0 := N3.out.cell 0
    have m1 := N3.out.cell 1
    have y0 := N3.out.frozen 0
    have y1 := N3.out.frozen 1
    generalize World.alloc w2 _ = w3 at *
    refine rg_next (i := 21) (l := #[true, true, true, true, true, true, true, true, true, true, true, true, true, true, true, true, true, true, true, true, true, true, false]) (fuel := 1) (by kernel_rfl) rfl (by kernel_rfl) (by kernel_rfl) (fun K hK => ?_)
    go_simp
    have X := Lib.hid (mv_stored xf xt N3.out H3.out HB3.out HT3.out HB2.out.size HG.out)
    first | (refine hK.out _ _ ?_ (fun hHeld => ?_)) | (go_wp2_with fail; refine hK.out _ _ ?_ (fun hHeld => ?_))
    · (try dsimp only); exact bw_of X.out.2.1
    clear hK K
    try simp only [Act.put, List.setIfInBounds_toArray, List.set_cons_zero, List.set_cons_succ]
    clear m0 m1 y0 y1 H3 HB3 HT3 N3
    generalize World.setCell (World.setCell w3 _ _) _ _ = w4 at *
    generalize w2.heap.size = gm at *
    clear H2 HB2 HT2
    refine rg_take (i := 22) (d := some 5) (l := #[true, true, true, true, true, true, true, true, true, true, true, true, true, true, true, true, true, true, true, true, true, true, true]) (fuel := 0) (v := ?_) rfl (by kernel_rfl) (by kernel_rfl) (by kernel_rfl) (by kernel_rfl) (by kernel_rfl) (fun _ _ _ h => h) (by kernel_rfl) ?_ (by assumption) ?_
    rotate_left 1
    · (intro wS hSw; (try dsimp only at hSw); go_simp; try with_reducible rfl)
    try simp only [Act.put, List.setIfInBounds_toArray, List.set_cons_zero, List.set_cons_succ]
    refine wpAnyH_done (by kernel_rfl) ?_ _
    have n0 := X.out.1.cell 0
    have n1 := X.out.1.cell 1
    go_wp2_with fail
    have A5 := Lib.hid (Blk.new w4 53 #[.int .u16 0, .int .u16 xf, .int .u16 0, .int .u16 0, .int .u16 xt, .int .u16 0])
    have H5 := Lib.hid (BuB.below X.out.2.1 ((Below.refl _ w4).alloc (Nat.le_refl _) (.cells #[.int .u16 0, .int .u16 xf, .int .u16 0, .int .u16 0, .int .u16 xt, .int .u16 0] 53)) X.out.2.1.lt)
    have T5 := Lib.hid (BKd.below X.out.2.2.2 ((Below.refl _ w4).alloc (Nat.le_refl _) (.cells #[.int .u16 0, .int .u16 xf, .int .u16 0, .int .u16 0, .int .u16 xt, .int .u16 0] 53)))
    have B5 := Lib.hid (X.out.2.2.1.alloc X.out.2.2.1.size (.cells #[.int .u16 0, .int .u16 xf, .int .u16 0, .int .u16 0, .int .u16 xt, .int .u16 0] 53))
    clear n0 n1 X
    generalize World.alloc w4 _ = w5 at *
    generalize w4.heap.size = ga at *
    have c5 : w5.cell? ⟨g, 5, none⟩ = some (.int .i64 5) := Blk.cell H5.out 5
    have ca : w5.cell? ⟨ga, 5, none⟩ = some (.int .u16 0) := A5.out.cell 5
    have ct : w5.cell? ⟨0, 5, none⟩ = some (.int .u8 2) := T5.out.2 5 (by decide)
    go_quiet (fail)
    go_wp2
    go_ret2
    exact ⟨rfl, below_drewN B5.out _⟩
  refine rg_step (i := 20) (l := #[true, true, true, true, true, true, true, true, true, true, true, true, true, true, true, true, false, false, false, false, true, false, false]) rfl (by kernel_rfl) (by kernel_rfl) ?_ ?_
  · intro K hK
    go_simp
    have N3 := Lib.hid (Blk.new w1 48 #[.int .u16 0, .int .u16 0])
    have H3 := Lib.hid (Blk.alloc H1.out (.cells #[.int .u16 0, .int .u16 0] 48))
    have HB3 := Lib.hid (HB1.out.alloc HB1.out.size (.cells #[.int .u16 0, .int .u16 0] 48))
    have HT3 := Lib.hid (HT1.out.below ((Below.refl _ w1).alloc (Nat.le_refl _) (.cells #[.int .u16 0, .int .u16 0] 48)))
    first | (refine hK.out _ _ ?_ (fun hHeld => ?_)) | (go_wp2_with fail; refine hK.out _ _ ?_ (fun hHeld => ?_))
    · (try dsimp only); exact bw_of H3.out
    clear hK K
    try simp only [Act.put, List.setIfInBounds_toArray, List.set_cons_zero, List.set_cons_succ]
    have HGM := Lib.hid HB1.out.size
    clear H1 HB1 HT1
    generalize World.alloc w1 _ = w3 at *
    generalize w1.heap.size = gm at *
    refine rg_next (i := 16) (l := #[true, true, true, true, true, true, true, true, true, true, true, true, true, true, true, true, true, false, false, false, true, false, false]) (fuel := 5) (by kernel_rfl) rfl (by kernel_rfl) (by kernel_rfl) (fun K hK => ?_)
    go_simp
    go_at_call 19
    refine (HA.out _).mono ?_
    rintro e w2 ⟨rfl, hb⟩
    have H2 := Lib.hid (BuB.below (w := w3.drew) H3.out hb (BuB.lt (w := w3) H3.out))
    have HB2 := Lib.hid (HB3.out.drew.trans (hb.mono HB3.out.drew.size))
    have HT2 := Lib.hid (BKd.below (w := w3.drew) HT3.out hb)
    have N2 := Lib.hid (Blk.below (w := w3.drew) N3.out hb (Blk.lt (w := w3) N3.out))
    clear hb H3 HB3 HT3 N3
    first | (refine hK.out _ _ ?_ (fun hHeld => ?_)) | (go_wp2_with fail; refine hK.out _ _ ?_ (fun hHeld => ?_))
    · (try dsimp only); exact bw_of H2.out
    clear hK K
    try simp only [Act.put, List.setIfInBounds_toArray, List.set_cons_zero, List.set_cons_succ]
    have m0 := N2.out.cell 0
    have m1 := N2.out.cell 1
    have y0 := N2.out.frozen 0
    have y1 := N2.out.frozen 1
    refine rg_take (i := 17) (d := some 9) (l := #[true, true, true, true, true, true, true, true, true, true, true, true, true, true, true, true, true, true, false, false, true, false, false]) (fuel := 4) (v := ?_) rfl (by kernel_rfl) (by kernel_rfl) (by kernel_rfl) (by kernel_rfl) (by kernel_rfl) (fun _ _ _ h => h) (by kernel_rfl) ?_ (by assumption) ?_
    rotate_left 1
    · (intro wS hSw; (try dsimp only at hSw); go_simp; try with_reducible rfl)
    try simp only [Act.put, List.setIfInBounds_toArray, List.set_cons_zero, List.set_cons_succ]
    refine rg_take (i := 18) (d := some 27) (l := #[true, true, true, true, true, true, true, true, true, true, true, true, true, true, true, true, true, true, true, false, true, false, false]) (fuel := 3) (v := ?_) rfl (by kernel_rfl) (by kernel_rfl) (by kernel_rfl) (by kernel_rfl) (by kernel_rfl) (fun _ _ _ h => h) (by kernel_rfl) ?_ (by assumption) ?_
    rotate_left 1
    · (intro wS hSw; (try dsimp only at hSw); go_simp; try with_reducible rfl)
    try simp only [Act.put, List.setIfInBounds_toArray, List.set_cons_zero, List.set_cons_succ]
    refine rg_take (i := 19) (d := some 28) (l := #[true, true, true, true, true, true, true, true, true, true, true, true, true, true, true, true, true, true, true, true, true, false, false]) (fuel := 2) (v := ?_) rfl (by kernel_rfl) (by kernel_rfl) (by kernel_rfl) (by kernel_rfl) (by kernel_rfl) (fun _ _ _ h => h) (by kernel_rfl) ?_ (by assumption) ?_
    rotate_left 1
    · (intro wS hSw; (try dsimp only at hSw); go_simp; try with_reducible rfl)
    try simp only [Act.put, List.setIfInBounds_toArray, List.set_cons_zero, List.set_cons_succ]
    refine rg_next (i := 21) (l := #[true, true, true, true, true, true, true, true, true, true, true, true, true, true, true, true, true, true, true, true, true, true, false]) (fuel := 1) (by kernel_rfl) rfl (by kernel_rfl) (by kernel_rfl) (fun K hK => ?_)
    go_simp
    have X := Lib.hid (mv_stored xf xt N2.out H2.out HB2.out HT2.out HGM.out HG.out)
    first | (refine hK.out _ _ ?_ (fun hHeld => ?_)) | (go_wp2_with fail; refine hK.out _ _ ?_ (fun hHeld => ?_))
    · (try dsimp only); exact bw_of X.out.2.1
    clear hK K
    try simp only [Act.put, List.setIfInBounds_toArray, List.set_cons_zero, List.set_cons_succ]
    clear m0 m1 y0 y1 H2 HB2 HT2 N2
    generalize World.setCell (World.setCell w2 _ _) _ _ = w4 at *
    refine rg_take (i := 22) (d := some 5) (l := #[true, true, true, true, true, true, true, true, true, true, true, true, true, true, true, true, true, true, true, true, true, true, true]) (fuel := 0) (v := ?_) rfl (by kernel_rfl) (by kernel_rfl) (by kernel_rfl) (by kernel_rfl) (by kernel_rfl) (fun _ _ _ h => h) (by kernel_rfl) ?_ (by assumption) ?_
    rotate_left 1
    · (intro wS hSw; (try dsimp only at hSw); go_simp; try with_reducible rfl)
    try simp only [Act.put, List.setIfInBounds_toArray, List.set_cons_zero, List.set_cons_succ]
    refine wpAnyH_done (by kernel_rfl) ?_ _
    have n0 := X.out.1.cell 0
    have n1 := X.out.1.cell 1
    go_wp2_with fail
    have A5 := Lib.hid (Blk.new w4 53 #[.int .u16 0, .int .u16 xf, .int .u16 0, .int .u16 0, .int .u16 xt, .int .u16 0])
    have H5 := Lib.hid (BuB.below X.out.2.1 ((Below.refl _ w4).alloc (Nat.le_refl _) (.cells #[.int .u16 0, .int .u16 xf, .int .u16 0, .int .u16 0, .int .u16 xt, .int .u16 0] 53)) X.out.2.1.lt)
    have T5 := Lib.hid (BKd.below X.out.2.2.2 ((Below.refl _ w4).alloc (Nat.le_refl _) (.cells #[.int .u16 0, .int .u16 xf, .int .u16 0, .int .u16 0, .int .u16 xt, .int .u16 0] 53)))
    have B5 := Lib.hid (X.out.2.2.1.alloc X.out.2.2.1.size (.cells #[.int .u16 0, .int .u16 xf, .int .u16 0, .int .u16 0, .int .u16 xt, .int .u16 0] 53))
    clear n0 n1 X
    generalize World.alloc w4 _ = w5 at *
    generalize w4.heap.size = ga at *
    have c5 : w5.cell? ⟨g, 5, none⟩ = some (.int .i64 5) := Blk.cell H5.out 5
    have ca : w5.cell? ⟨ga, 5, none⟩ = some (.int .u16 0) := A5.out.cell 5
    have ct : w5.cell? ⟨0, 5, none⟩ = some (.int .u8 2) := T5.out.2 5 (by decide)
    go_quiet (fail)
    go_wp2
    go_ret2
    exact ⟨rfl, below_drewN B5.out _⟩
  exact AllReadyH.nil
theorem bnext_any {w : World} {g : Nat} {s : Bu} (h : BuB w g s) (ho : s.ok) (hT : BKd w) : Calls Tryd.prog 12 #[.pointer (some ⟨g, 0, none⟩)] w fun e w' => e = .returned (.tuple #[.int .u8 s.kd, .int .u16 s.pl]) ∧ Below w.heap.size w w' := by
  by_cases x : s.m = s.b
  · have e1 : s.kd = 2 := if_pos x
    have e2 : s.pl = 0 := if_pos x
    rw [e1, e2]
    have hD := bdone_any h ho
    rw [decide_eq_true x] at hD
    have HD := Lib.hid hD
    clear h ho hD e1 e2 x hT
    go_enter Tryd.func12, Tryd.ntmps12
    go_wp2_with fail
    refine HD.out.mono ?_
    rintro e w1 ⟨rfl, hb⟩
    have HB := Lib.hid hb
    clear hb
    go_wp2
    go_ret2
    exact ⟨rfl, HB.out⟩
  · obtain ⟨k, f, t, b, m, p, d⟩ := s
    have hp : p = 0 ∨ p = 1 ∨ p = 2 ∨ p = 3 ∨ p = 4 ∨ p = 5 := by have := ho.p6; dsimp only at this; omega
    have e1 : Bu.kd ⟨k, f, t, b, m, p, d⟩ = if p = 1 then 3 else if p = 4 then 4 else 2 := if_neg x
    have e2 : Bu.pl ⟨k, f, t, b, m, p, d⟩ = if p = 1 then mvF k f (m : Int) else if p = 4 then mvT k t (m : Int) else 0 := if_neg x
    rw [e1, e2]
    rcases hp with rfl | rfl | rfl | rfl | rfl | rfl
    · exact bnext_0 h ho hT x
    · exact bnext_1 h ho hT x
    · exact bnext_2 h ho hT x
    · exact bnext_3 h ho hT x
    · exact bnext_4 h ho hT x
    · exact bnext_5 h ho hT x
end Go.Proofs.YtndhkdcdhpfajaaDoor
