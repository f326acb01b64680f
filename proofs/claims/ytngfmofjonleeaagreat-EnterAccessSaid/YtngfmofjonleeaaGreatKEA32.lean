/-
  Texts of these proofs, one behind the other: Rh6, Rh8, Bh2, Rh4.
-/
import Derived.Test.YtngfmofjonleeaaGreatKEA23
import Derived.RegionTactic
import Derived.BigRegion
namespace Go.Proofs.YtngfmofjonleeaaGreat
open Go.RowKit
set_option linter.unusedVariables false
set_option linter.unusedSimpArgs false
set_option maxRecDepth 100000
/-- The slices that the reference's page was made of have the page's bytes and edges. -/
structure Rws (w : World) (d : Hd) (Z : Rz) : Prop where
  v : IRow w .u8 Z.A1 d.nv d.zv
  c : IRow w .u8 Z.A2 d.nc d.zc
  p : IRow w .u8 Z.A3 d.np d.zp
  e : ERow w Z.A d.n d.es
theorem Rws.keep {w w' : World} {d : Hd} {Z : Rz} (h : Rws w d Z) (k : Below w.heap.size w w') : Rws w' d Z := ⟨h.v.keep k, h.c.keep k, h.p.keep k, FRow.keep h.e k⟩
theorem mix_all (v b : Int) (v0 : 0 ≤ v) (v1 : v ≤ 255) (b0 : 0 ≤ b) (b1 : b ≤ 255) : mixI v 255 b = b := by
  obtain ⟨x, rfl⟩ := bv_of v v0 v1
  obtain ⟨z, rfl⟩ := bv_of b b0 b1
  have h := mix_bv x (255#8) z
  have e : ((x &&& ~~~(255#8)) ||| (z &&& (255#8))) = z := by
    have e1 : ~~~(255#8) = 0#8 := by decide
    have e2 : (255#8) = BitVec.allOnes 8 := by decide
    rw [e1, e2, BitVec.and_zero, BitVec.zero_or, BitVec.and_allOnes]
  rw [e] at h
  exact h
theorem rread_v {v m b y : Int} {w : World} (v0 : 0 ≤ v) (v1 : v ≤ 255) (m0 : 0 ≤ m) (m1 : m ≤ 255) (b0 : 0 ≤ b) (b1 : b ≤ 255) (e : mixI v m b = y) :
    Calls Tryz.prog 79 #[.int .u8 v, .int .u8 m, .int .u8 b] w fun e w' => e = .returned (.int .u8 y) ∧ Below w.heap.size w w' := e ▸ rlatread_any v m b w v0 v1 m0 m1 b0 b1
theorem rqstatus_v {w : World} {g : Nat} {s : Iq} (h : RQ w g s) {u2 u3 : Bool} {x : Int} (e : stV s.due u2 u3 = x) :
    Calls Tryz.prog 81 #[.pointer (some ⟨g, 0, none⟩), .bool u2, .bool u3] w fun e w' => e = .returned (.int .u8 x) ∧ Below w.heap.size w w' := e ▸ rqstatus_any h u2 u3
section
variable {w : World} {r : Nat} {d : Hd} {J : Rr} {Z : Rz} {x : Hp}
set_option maxHeartbeats 4000000 in
theorem rhread3 (h : RHp w r d J Z x) (hok : x.ok d) (hR : Rws w d Z) (hn : d.np ≤ 140737488355328 ∧ d.nv ≤ 140737488355328 ∧ d.nc ≤ 140737488355328) (hl : x.lim 1000000) (hpb : 0 ≤ peekI (d.np - x.tp) (fun i => d.zp (x.tp + i)) 0 ∧ peekI (d.np - x.tp) (fun i => d.zp (x.tp + i)) 0 ≤ 255) (hG : Good d.n d.es) (off : Int) (o0 : 0 ≤ off) (o1 : off ≤ 65535) (hk : whereI (plA off) = 3) :
    Calls Tryz.prog 43 #[.pointer (some ⟨r, 0, none⟩), .int .u16 off] w (RhR (.int .u8 (peekI (d.nv - x.tv) (fun i => d.zv (x.tv + i)) 0)) r d J Z { x with tv := x.tv + 1 } (J.all r) w) := by
    obtain ⟨a0, a1⟩ := plA_bd off o0
    have bu0 := hok.2.2.1.1
    have bu1 := hok.2.2.1.2
    have tc0 := hok.1.2.1
    have k7 := hok.2.2.2.1
    have hs := hok.2.1
    have hn1 := hG.1
    have H := Lib.hid h
    have HK := Lib.hid hk
    have HL := Lib.hid hl
    have HR := Lib.hid hR
    have HPB := Lib.hid hpb
    clear h hk hl hR hok hpb hG
    go_enter Tryz.func43, Tryz.ntmps43
    go_wp2_with fail
    refine (rat_v o0 o1 rfl).mono ?_
    rintro e w' ⟨rfl, rfl⟩
    go_wp2_with fail
    refine (rwhere_v a0 a1 HK.out).mono ?_
    rintro e w1 ⟨rfl, b1⟩
    have H1 := Lib.hid (H.out.keep b1)
    have R1 := Lib.hid (HR.out.keep b1)
    have K1 : Hid (Kp (J.all r) w w1) := Lib.hid (Kp.of_below b1)
    obtain ⟨e0, e1, e2, e3, e4, e5, e6, e7⟩ := H1.out.cells
    clear b1 H HR
    go_wp2_with fail
    refine (rfnext_any H1.out.v R1.out.v hn.2.1 (by have := HL.out.1; omega)).mono ?_
    rintro e w2 ⟨rfl, y1, y2⟩
    have H2 := Lib.hid (H1.out.vv y1 y2)
    have K2 := Lib.hid (K1.out.trans (y2.mono (M := J.all r) (by simp [Rr.all])) (fun z hz => .inl hz))
    clear y1 y2 e0 e1 e2 e3 e4 e5 e6 e7
    go_wp2_with fail
    go_ret
    exact ⟨rfl, H2.out, K2.out⟩
set_option maxHeartbeats 4000000 in
theorem rhread4 (h : RHp w r d J Z x) (hok : x.ok d) (hR : Rws w d Z) (hn : d.np ≤ 140737488355328 ∧ d.nv ≤ 140737488355328 ∧ d.nc ≤ 140737488355328) (hl : x.lim 1000000) (hpb : 0 ≤ peekI (d.np - x.tp) (fun i => d.zp (x.tp + i)) 0 ∧ peekI (d.np - x.tp) (fun i => d.zp (x.tp + i)) 0 ≤ 255) (hG : Good d.n d.es) (off : Int) (o0 : 0 ≤ off) (o1 : off ≤ 65535) (hk : whereI (plA off) = 4) :
    Calls Tryz.prog 43 #[.pointer (some ⟨r, 0, none⟩), .int .u16 off] w (RhR (.int .u8 (peekI (d.nc - x.tc) (fun i => d.zc (x.tc + i)) 0)) r d J Z { x with tc := x.tc + 1 } (J.all r) w) := by
    obtain ⟨a0, a1⟩ := plA_bd off o0
    have bu0 := hok.2.2.1.1
    have bu1 := hok.2.2.1.2
    have tc0 := hok.1.2.1
    have k7 := hok.2.2.2.1
    have hs := hok.2.1
    have hn1 := hG.1
    have H := Lib.hid h
    have HK := Lib.hid hk
    have HL := Lib.hid hl
    have HR := Lib.hid hR
    have HPB := Lib.hid hpb
    clear h hk hl hR hok hpb hG
    go_enter Tryz.func43, Tryz.ntmps43
    go_wp2_with fail
    refine (rat_v o0 o1 rfl).mono ?_
    rintro e w' ⟨rfl, rfl⟩
    go_wp2_with fail
    refine (rwhere_v a0 a1 HK.out).mono ?_
    rintro e w1 ⟨rfl, b1⟩
    have H1 := Lib.hid (H.out.keep b1)
    have R1 := Lib.hid (HR.out.keep b1)
    have K1 : Hid (Kp (J.all r) w w1) := Lib.hid (Kp.of_below b1)
    obtain ⟨e0, e1, e2, e3, e4, e5, e6, e7⟩ := H1.out.cells
    clear b1 H HR
    go_wp2_with fail
    refine (rfnext_any H1.out.c R1.out.c hn.2.2 (by have := HL.out.2.1; omega)).mono ?_
    rintro e w2 ⟨rfl, y1, y2⟩
    have H2 := Lib.hid (H1.out.vc y1 y2)
    have K2 := Lib.hid (K1.out.trans (y2.mono (M := J.all r) (by simp [Rr.all])) (fun z hz => .inl hz))
    clear y1 y2 e0 e1 e2 e3 e4 e5 e6 e7
    go_wp2_with fail
    go_ret
    exact ⟨rfl, H2.out, K2.out⟩
set_option maxHeartbeats 4000000 in
theorem rhread5 (h : RHp w r d J Z x) (hok : x.ok d) (hR : Rws w d Z) (hn : d.np ≤ 140737488355328 ∧ d.nv ≤ 140737488355328 ∧ d.nc ≤ 140737488355328) (hl : x.lim 1000000) (hpb : 0 ≤ peekI (d.np - x.tp) (fun i => d.zp (x.tp + i)) 0 ∧ peekI (d.np - x.tp) (fun i => d.zp (x.tp + i)) 0 ≤ 255) (hG : Good d.n d.es) (off : Int) (o0 : 0 ≤ off) (o1 : off ≤ 65535) (hk : whereI (plA off) = 5) :
    Calls Tryz.prog 43 #[.pointer (some ⟨r, 0, none⟩), .int .u16 off] w (RhR (.int .u8 x.buf) r d J Z x (J.all r) w) := by
    obtain ⟨a0, a1⟩ := plA_bd off o0
    have bu0 := hok.2.2.1.1
    have bu1 := hok.2.2.1.2
    have tc0 := hok.1.2.1
    have k7 := hok.2.2.2.1
    have hs := hok.2.1
    have hn1 := hG.1
    have H := Lib.hid h
    have HK := Lib.hid hk
    have HL := Lib.hid hl
    have HR := Lib.hid hR
    have HPB := Lib.hid hpb
    clear h hk hl hR hok hpb hG
    go_enter Tryz.func43, Tryz.ntmps43
    go_wp2_with fail
    refine (rat_v o0 o1 rfl).mono ?_
    rintro e w' ⟨rfl, rfl⟩
    go_wp2_with fail
    refine (rwhere_v a0 a1 HK.out).mono ?_
    rintro e w1 ⟨rfl, b1⟩
    have H1 := Lib.hid (H.out.keep b1)
    have R1 := Lib.hid (HR.out.keep b1)
    have K1 : Hid (Kp (J.all r) w w1) := Lib.hid (Kp.of_below b1)
    obtain ⟨e0, e1, e2, e3, e4, e5, e6, e7⟩ := H1.out.cells
    clear b1 H HR
    go_wp2_with fail
    go_ret
    exact ⟨rfl, H1.out, K1.out⟩
set_option maxHeartbeats 4000000 in
theorem rhread6 (h : RHp w r d J Z x) (hok : x.ok d) (hR : Rws w d Z) (hn : d.np ≤ 140737488355328 ∧ d.nv ≤ 140737488355328 ∧ d.nc ≤ 140737488355328) (hl : x.lim 1000000) (hpb : 0 ≤ peekI (d.np - x.tp) (fun i => d.zp (x.tp + i)) 0 ∧ peekI (d.np - x.tp) (fun i => d.zp (x.tp + i)) 0 ≤ 255) (hG : Good d.n d.es) (off : Int) (o0 : 0 ≤ off) (o1 : off ≤ 65535) (hk : whereI (plA off) = 6) :
    Calls Tryz.prog 43 #[.pointer (some ⟨r, 0, none⟩), .int .u16 off] w (RhR (.int .u8 (mixI x.buf 127 x.tm.c)) r d J Z { x with buf := mixI x.buf 127 x.tm.c } (J.all r) w) := by
    obtain ⟨a0, a1⟩ := plA_bd off o0
    have bu0 := hok.2.2.1.1
    have bu1 := hok.2.2.1.2
    have tc0 := hok.1.2.1
    have k7 := hok.2.2.2.1
    have hs := hok.2.1
    have hn1 := hG.1
    have H := Lib.hid h
    have HK := Lib.hid hk
    have HL := Lib.hid hl
    have HR := Lib.hid hR
    have HPB := Lib.hid hpb
    clear h hk hl hR hok hpb hG
    obtain ⟨y, hy⟩ : ∃ y, mixI x.buf 127 x.tm.c = y := ⟨_, rfl⟩
    rw [hy]
    have MV := Lib.hid hy
    clear hy
    go_enter Tryz.func43, Tryz.ntmps43
    go_wp2_with fail
    refine (rat_v o0 o1 rfl).mono ?_
    rintro e w' ⟨rfl, rfl⟩
    go_wp2_with fail
    refine (rwhere_v a0 a1 HK.out).mono ?_
    rintro e w1 ⟨rfl, b1⟩
    have H1 := Lib.hid (H.out.keep b1)
    have R1 := Lib.hid (HR.out.keep b1)
    have K1 : Hid (Kp (J.all r) w w1) := Lib.hid (Kp.of_below b1)
    obtain ⟨e0, e1, e2, e3, e4, e5, e6, e7⟩ := H1.out.cells
    clear b1 H HR
    go_wp2_with fail
    have ec : _ = some (Value.int .u8 x.tm.c) := H1.out.tm.1.cell 1
    have ep := H1.out.cells.2.1
    have ez := H1.out.cells.1
    clear e0 e1 e2 e3 e4 e5 e6 e7
    refine rg_begin (S := fun w' => w'.cell? ⟨r, 1, none⟩ = some (.pointer (some ⟨J.t, 0, none⟩)) ∧ w'.cell? ⟨J.t, 1, none⟩ = some (.int .u8 x.tm.c)) 16 #[false, false, false, false, false, false, false, false, false, false, false, false, false, false, false, false] (by kernel_rfl) (by kernel_rfl) (by kernel_rfl) ?_ (fun hHeld => ?_)
    · exact ⟨ep, ec⟩
    refine rg_take (i := 0) (d := some 32) (l := #[true, false, false, false, false, false, false, false, false, false, false, false, false, false, false, false]) (fuel := 15) (v := ?_) rfl (by kernel_rfl) (by kernel_rfl) (by kernel_rfl) (by kernel_rfl) (by kernel_rfl) (fun _ _ _ h => h) (by kernel_rfl) ?_ (by assumption) ?_
    rotate_left 1
    · (intro wS hSw; (try dsimp only at hSw); go_simp; try with_reducible rfl)
    try simp only [Act.put, List.setIfInBounds_toArray, List.set_cons_zero, List.set_cons_succ]
    refine rg_take (i := 1) (d := some 33) (l := #[true, true, false, false, false, false, false, false, false, false, false, false, false, false, false, false]) (fuel := 14) (v := ?_) rfl (by kernel_rfl) (by kernel_rfl) (by kernel_rfl) (by kernel_rfl) (by kernel_rfl) (fun _ _ _ h => h) (by kernel_rfl) ?_ (by assumption) ?_
    rotate_left 1
    · (intro wS hSw; (try dsimp only at hSw); go_simp; try with_reducible rfl)
    try simp only [Act.put, List.setIfInBounds_toArray, List.set_cons_zero, List.set_cons_succ]
    refine rg_take (i := 2) (d := some 34) (l := #[true, true, true, false, false, false, false, false, false, false, false, false, false, false, false, false]) (fuel := 13) (v := ?_) rfl (by kernel_rfl) (by kernel_rfl) (by kernel_rfl) (by kernel_rfl) (by kernel_rfl) (fun _ _ _ h => h) (by kernel_rfl) ?_ (by assumption) ?_
    rotate_left 1
    · (intro wS hSw; (try dsimp only at hSw); go_simp; try with_reducible rfl)
    try simp only [Act.put, List.setIfInBounds_toArray, List.set_cons_zero, List.set_cons_succ]
    refine rg_take (i := 3) (d := some 35) (l := #[true, true, true, true, false, false, false, false, false, false, false, false, false, false, false, false]) (fuel := 12) (v := ?_) rfl (by kernel_rfl) (by kernel_rfl) (by kernel_rfl) (by kernel_rfl) (by kernel_rfl) (fun _ _ _ h => h) (by kernel_rfl) ?_ (by assumption) ?_
    rotate_left 1
    · (intro wS hSw; (try dsimp only at hSw); go_simp; try with_reducible rfl)
    try simp only [Act.put, List.setIfInBounds_toArray, List.set_cons_zero, List.set_cons_succ]
    refine rg_take (i := 5) (d := some 37) (l := #[true, true, true, true, false, true, false, false, false, false, false, false, false, false, false, false]) (fuel := 11) (v := ?_) rfl (by kernel_rfl) (by kernel_rfl) (by kernel_rfl) (by kernel_rfl) (by kernel_rfl) (fun _ _ _ h => h) (by kernel_rfl) ?_ (by assumption) ?_
    rotate_left 1
    · (intro wS hSw; (try dsimp only at hSw); go_simp; try with_reducible rfl)
    try simp only [Act.put, List.setIfInBounds_toArray, List.set_cons_zero, List.set_cons_succ]
    refine rg_take (i := 6) (d := some 38) (l := #[true, true, true, true, false, true, true, false, false, false, false, false, false, false, false, false]) (fuel := 10) (v := ?_) rfl (by kernel_rfl) (by kernel_rfl) (by kernel_rfl) (by kernel_rfl) (by kernel_rfl) (fun _ _ _ h => h) (by kernel_rfl) ?_ (by assumption) ?_
    rotate_left 1
    · (intro wS hSw; (try dsimp only at hSw); go_simp; try with_reducible rfl)
    try simp only [Act.put, List.setIfInBounds_toArray, List.set_cons_zero, List.set_cons_succ]
    refine rg_take (i := 7) (d := some 39) (l := #[true, true, true, true, false, true, true, true, false, false, false, false, false, false, false, false]) (fuel := 9) (v := ?_) rfl (by kernel_rfl) (by kernel_rfl) (by kernel_rfl) (by kernel_rfl) (by kernel_rfl) (fun _ _ _ h => h) (by kernel_rfl) ?_ (by assumption) ?_
    rotate_left 1
    · (intro wS hSw; (try dsimp only at hSw); go_simp; try with_reducible rfl)
    try simp only [Act.put, List.setIfInBounds_toArray, List.set_cons_zero, List.set_cons_succ]
    refine rg_take (i := 8) (d := some 40) (l := #[true, true, true, true, false, true, true, true, true, false, false, false, false, false, false, false]) (fuel := 8) (v := ?_) rfl (by kernel_rfl) (by kernel_rfl) (by kernel_rfl) (by kernel_rfl) (by kernel_rfl) (fun _ _ _ h => h) (by kernel_rfl) ?_ (by assumption) ?_
    rotate_left 1
    · (intro wS hSw; (try dsimp only at hSw); go_simp; try with_reducible rfl)
    try simp only [Act.put, List.setIfInBounds_toArray, List.set_cons_zero, List.set_cons_succ]
    refine rg_take (i := 9) (d := some 41) (l := #[true, true, true, true, false, true, true, true, true, true, false, false, false, false, false, false]) (fuel := 7) (v := ?_) rfl (by kernel_rfl) (by kernel_rfl) (by kernel_rfl) (by kernel_rfl) (by kernel_rfl) (fun _ _ _ h => h) (by kernel_rfl) ?_ (by assumption) ?_
    rotate_left 1
    · (intro wS hSw; (try dsimp only at hSw); go_simp; try with_reducible rfl)
    try simp only [Act.put, List.setIfInBounds_toArray, List.set_cons_zero, List.set_cons_succ]
    refine rg_take (i := 10) (d := some 42) (l := #[true, true, true, true, false, true, true, true, true, true, true, false, false, false, false, false]) (fuel := 6) (v := ?_) rfl (by kernel_rfl) (by kernel_rfl) (by kernel_rfl) (by kernel_rfl) (by kernel_rfl) (fun _ _ _ h => h) (by kernel_rfl) ?_ (by assumption) ?_
    rotate_left 1
    · (intro wS hSw; (try dsimp only at hSw); go_simp; try with_reducible rfl)
    try simp only [Act.put, List.setIfInBounds_toArray, List.set_cons_zero, List.set_cons_succ]
    refine rg_take (i := 11) (d := some 43) (l := #[true, true, true, true, false, true, true, true, true, true, true, true, false, false, false, false]) (fuel := 5) (v := ?_) rfl (by kernel_rfl) (by kernel_rfl) (by kernel_rfl) (by kernel_rfl) (by kernel_rfl) (fun _ _ _ h => h) (by kernel_rfl) ?_ (by assumption) ?_
    rotate_left 1
    · (intro wS hSw; (try dsimp only at hSw); go_simp; try with_reducible rfl)
    try simp only [Act.put, List.setIfInBounds_toArray, List.set_cons_zero, List.set_cons_succ]
    refine rg_next (i := 4) (l := #[true, true, true, true, true, true, true, true, true, true, true, true, false, false, false, false]) (fuel := 4) (by kernel_rfl) rfl (by kernel_rfl) (by kernel_rfl) (fun K hK => ?_)
    go_simp
    skip
    first | (refine hK.out _ _ ?_ (fun hHeld => ?_)) | (go_wp2_with fail; refine hK.out _ _ ?_ (fun hHeld => ?_))
    · (try dsimp only); exact ⟨ep, ec⟩
    clear hK K
    try simp only [Act.put, List.setIfInBounds_toArray, List.set_cons_zero, List.set_cons_succ]
    refine rg_next (i := 12) (l := #[true, true, true, true, true, true, true, true, true, true, true, true, true, false, false, false]) (fuel := 3) (by kernel_rfl) rfl (by kernel_rfl) (by kernel_rfl) (fun K hK => ?_)
    go_simp
    (go_at_call 79)
    refine (rread_v bu0 bu1 (by decide) (by decide) (by omega) (by omega) MV.out).mono ?_
    rintro e w4 ⟨rfl, b4⟩
    have H4 := Lib.hid ((H1.out.kp0 (Kp.refl _ _).drew).keep b4)
    have K4 : Hid (Kp (J.all r) w w4) := Lib.hid (K1.out.drew.trans (Kp.of_below (L := []) b4) (by simp))
    clear b4 ez
    have x0 := H4.out.cells.1
    have xp := H4.out.cells.2.1
    have xc : w4.cell? ⟨J.t, 1, none⟩ = some (.int .u8 x.tm.c) := H4.out.tm.1.cell 1
    have xf := H4.out.pg.frozen 0
    first | (refine hK.out _ _ ?_ (fun hHeld => ?_)) | (go_wp2_with fail; refine hK.out _ _ ?_ (fun hHeld => ?_))
    · (try dsimp only); exact ⟨xp, xc⟩
    clear hK K
    try simp only [Act.put, List.setIfInBounds_toArray, List.set_cons_zero, List.set_cons_succ]
    refine rg_take (i := 13) (d := some 45) (l := #[true, true, true, true, true, true, true, true, true, true, true, true, true, true, false, false]) (fuel := 2) (v := ?_) rfl (by kernel_rfl) (by kernel_rfl) (by kernel_rfl) (by kernel_rfl) (by kernel_rfl) (fun _ _ _ h => h) (by kernel_rfl) ?_ (by assumption) ?_
    rotate_left 1
    · (intro wS hSw; (try dsimp only at hSw); go_simp; try with_reducible rfl)
    try simp only [Act.put, List.setIfInBounds_toArray, List.set_cons_zero, List.set_cons_succ]
    refine rg_take (i := 14) (d := some 46) (l := #[true, true, true, true, true, true, true, true, true, true, true, true, true, true, true, false]) (fuel := 1) (v := ?_) rfl (by kernel_rfl) (by kernel_rfl) (by kernel_rfl) (by kernel_rfl) (by kernel_rfl) (fun _ _ _ h => h) (by kernel_rfl) ?_ (by assumption) ?_
    rotate_left 1
    · (intro wS hSw; (try dsimp only at hSw); go_simp; try with_reducible rfl)
    try simp only [Act.put, List.setIfInBounds_toArray, List.set_cons_zero, List.set_cons_succ]
    obtain ⟨r1, r2⟩ := H4.out.vbuf y
    have H5 := Lib.hid r1
    have K5 := Lib.hid (K4.out.trans (r2.mono (M := J.all r) (by simp [Rr.all])) (fun z hz => .inl hz))
    have wp := H5.out.cells.2.1
    have wc : (w4.setCell ⟨r, 0, none⟩ (.int .u8 y)).cell? ⟨J.t, 1, none⟩ = some (.int .u8 x.tm.c) := H5.out.tm.1.cell 1
    clear r1 r2
    refine rg_next (i := 15) (l := #[true, true, true, true, true, true, true, true, true, true, true, true, true, true, true, true]) (fuel := 0) (by kernel_rfl) rfl (by kernel_rfl) (by kernel_rfl) (fun K hK => ?_)
    go_simp
    skip
    first | (refine hK.out _ _ ?_ (fun hHeld => ?_)) | (go_wp2_with fail; refine hK.out _ _ ?_ (fun hHeld => ?_))
    · (try dsimp only); exact ⟨wp, wc⟩
    clear hK K
    try simp only [Act.put, List.setIfInBounds_toArray, List.set_cons_zero, List.set_cons_succ]
    refine wpAnyH_done (by kernel_rfl) ?_ _
    have x5 := H5.out.cells.1
    clear hHeld ep ec x0 xp xc xf wp wc
    generalize World.setCell _ _ _ = w5 at *
    go_wp2_with fail
    go_ret
    exact ⟨rfl, H5.out, K5.out⟩
set_option maxHeartbeats 4000000 in
theorem rhread7 (h : RHp w r d J Z x) (hok : x.ok d) (hR : Rws w d Z) (hn : d.np ≤ 140737488355328 ∧ d.nv ≤ 140737488355328 ∧ d.nc ≤ 140737488355328) (hl : x.lim 1000000) (hpb : 0 ≤ peekI (d.np - x.tp) (fun i => d.zp (x.tp + i)) 0 ∧ peekI (d.np - x.tp) (fun i => d.zp (x.tp + i)) 0 ≤ 255) (hG : Good d.n d.es) (off : Int) (o0 : 0 ≤ off) (o1 : off ≤ 65535) (hk : whereI (plA off) = 7) :
    Calls Tryz.prog 43 #[.pointer (some ⟨r, 0, none⟩), .int .u16 off] w (RhR (.int .u8 (mixI x.buf 255 (x.pt.val (peekI (d.np - x.tp) (fun i => d.zp (x.tp + i)) 0)))) r d J Z { x with buf := mixI x.buf 255 (x.pt.val (peekI (d.np - x.tp) (fun i => d.zp (x.tp + i)) 0)), tp := if x.pt.takes then x.tp + 1 else x.tp } (J.all r) w) := by
    obtain ⟨a0, a1⟩ := plA_bd off o0
    have bu0 := hok.2.2.1.1
    have bu1 := hok.2.2.1.2
    have tc0 := hok.1.2.1
    have k7 := hok.2.2.2.1
    have hs := hok.2.1
    have hn1 := hG.1
    have H := Lib.hid h
    have HK := Lib.hid hk
    have HL := Lib.hid hl
    have HR := Lib.hid hR
    have HPB := Lib.hid hpb
    clear h hk hl hR hok hpb hG
    have vb := Pt.val_byte x.pt _ HPB.out.1 HPB.out.2
    obtain ⟨v, hv⟩ : ∃ v, x.pt.val (peekI (d.np - x.tp) (fun i => d.zp (x.tp + i)) 0) = v := ⟨_, rfl⟩
    obtain ⟨tq, htq⟩ : ∃ tq, (if x.pt.takes then x.tp + 1 else x.tp) = tq := ⟨_, rfl⟩
    rw [hv] at vb
    rw [hv, htq, mix_all x.buf v bu0 bu1 vb.1 vb.2]
    have HV := Lib.hid hv
    have HT := Lib.hid htq
    clear hv htq vb
    go_enter Tryz.func43, Tryz.ntmps43
    go_wp2_with fail
    refine (rat_v o0 o1 rfl).mono ?_
    rintro e w' ⟨rfl, rfl⟩
    go_wp2_with fail
    refine (rwhere_v a0 a1 HK.out).mono ?_
    rintro e w1 ⟨rfl, b1⟩
    have H1 := Lib.hid (H.out.keep b1)
    have R1 := Lib.hid (HR.out.keep b1)
    have K1 : Hid (Kp (J.all r) w w1) := Lib.hid (Kp.of_below b1)
    obtain ⟨e0, e1, e2, e3, e4, e5, e6, e7⟩ := H1.out.cells
    clear b1 H HR
    go_wp2_with fail
    refine (rpread_any H1.out.pt R1.out.p hn.1 (by have := HL.out.2.2; omega) HPB.out).mono ?_
    rw [HV.out, HT.out]
    rintro e w2 ⟨rfl, y1, y2⟩
    have H2 := Lib.hid (H1.out.vpt y1 y2)
    have K2 := Lib.hid (K1.out.trans (y2.mono (M := J.all r) (by simp [Rr.all])) (fun z hz => .inl hz))
    clear y1 y2 e0 e1 e2 e3 e4 e5 e6 e7
    have x0 := H2.out.cells.1
    have xf := H2.out.pg.frozen 0
    obtain ⟨r1, r2⟩ := H2.out.vbuf v
    have H5 := Lib.hid r1
    have K5 := Lib.hid (K2.out.trans (r2.mono (M := J.all r) (by simp [Rr.all])) (fun z hz => .inl hz))
    have x5 := H5.out.cells.1
    clear r1 r2
    go_wp2_with fail
    go_ret
    exact ⟨rfl, H5.out, K5.out⟩
set_option maxHeartbeats 4000000 in
theorem rhread82 (h : RHp w r d J Z x) (hok : x.ok d) (hR : Rws w d Z) (hn : d.np ≤ 140737488355328 ∧ d.nv ≤ 140737488355328 ∧ d.nc ≤ 140737488355328) (hl : x.lim 1000000) (hpb : 0 ≤ peekI (d.np - x.tp) (fun i => d.zp (x.tp + i)) 0 ∧ peekI (d.np - x.tp) (fun i => d.zp (x.tp + i)) 0 ≤ 255) (hG : Good d.n d.es) (off : Int) (o0 : 0 ≤ off) (o1 : off ≤ 65535) (hk : whereI (plA off) = 8) (hreg : regI (plA off) = 2) :
    Calls Tryz.prog 43 #[.pointer (some ⟨r, 0, none⟩), .int .u16 off] w (RhR (.int .u8 (mixI x.buf 7 x.q.d)) r d J Z { x with buf := mixI x.buf 7 x.q.d } (J.all r) w) := by
    obtain ⟨a0, a1⟩ := plA_bd off o0
    have bu0 := hok.2.2.1.1
    have bu1 := hok.2.2.1.2
    have tc0 := hok.1.2.1
    have k7 := hok.2.2.2.1
    have hs := hok.2.1
    have hn1 := hG.1
    have H := Lib.hid h
    have HK := Lib.hid hk
    have HL := Lib.hid hl
    have HR := Lib.hid hR
    have HPB := Lib.hid hpb
    clear h hk hl hR hok hpb hG
    obtain ⟨y, hy⟩ : ∃ y, mixI x.buf 7 x.q.d = y := ⟨_, rfl⟩
    rw [hy]
    have MV := Lib.hid hy
    clear hy
    have HREG := Lib.hid hreg
    clear hreg
    go_enter Tryz.func43, Tryz.ntmps43
    go_wp2_with fail
    refine (rat_v o0 o1 rfl).mono ?_
    rintro e w' ⟨rfl, rfl⟩
    go_wp2_with fail
    refine (rwhere_v a0 a1 HK.out).mono ?_
    rintro e w1 ⟨rfl, b1⟩
    have H1 := Lib.hid (H.out.keep b1)
    have R1 := Lib.hid (HR.out.keep b1)
    have K1 : Hid (Kp (J.all r) w w1) := Lib.hid (Kp.of_below b1)
    obtain ⟨e0, e1, e2, e3, e4, e5, e6, e7⟩ := H1.out.cells
    clear b1 H HR
    go_wp2_with fail
    refine (rreg_v a0 a1 HREG.out).mono ?_
    rintro e w2 ⟨rfl, b2⟩
    have H2 := Lib.hid (H1.out.keep b2)
    have R2 := Lib.hid (R1.out.keep b2)
    have K2 : Hid (Kp (J.all r) w w2) := Lib.hid (K1.out.trans (Kp.of_below (L := []) b2) (by simp))
    clear b2 H1 R1 K1
    have H1 := H2
    have R1 := R2
    have K1 := K2
    clear H2 R2 K2
    clear e0 e1 e2 e3 e4 e5 e6 e7
    obtain ⟨e0, e1, e2, e3, e4, e5, e6, e7⟩ := H1.out.cells
    go_wp2_with fail
    have ec : _ = some (Value.int .u8 x.q.d) := H1.out.q.1.cell 0
    have ep := H1.out.cells.2.2.1
    have ez := H1.out.cells.1
    clear e0 e1 e2 e3 e4 e5 e6 e7
    refine rg_begin (S := fun w' => w'.cell? ⟨r, 2, none⟩ = some (.pointer (some ⟨J.q, 0, none⟩)) ∧ w'.cell? ⟨J.q, 0, none⟩ = some (.int .u8 x.q.d)) 16 #[false, false, false, false, false, false, false, false, false, false, false, false, false, false, false, false] (by kernel_rfl) (by kernel_rfl) (by kernel_rfl) ?_ (fun hHeld => ?_)
    · exact ⟨ep, ec⟩
    refine rg_take (i := 0) (d := some 70) (l := #[true, false, false, false, false, false, false, false, false, false, false, false, false, false, false, false]) (fuel := 15) (v := ?_) rfl (by kernel_rfl) (by kernel_rfl) (by kernel_rfl) (by kernel_rfl) (by kernel_rfl) (fun _ _ _ h => h) (by kernel_rfl) ?_ (by assumption) ?_
    rotate_left 1
    · (intro wS hSw; (try dsimp only at hSw); go_simp; try with_reducible rfl)
    try simp only [Act.put, List.setIfInBounds_toArray, List.set_cons_zero, List.set_cons_succ]
    refine rg_take (i := 1) (d := some 71) (l := #[true, true, false, false, false, false, false, false, false, false, false, false, false, false, false, false]) (fuel := 14) (v := ?_) rfl (by kernel_rfl) (by kernel_rfl) (by kernel_rfl) (by kernel_rfl) (by kernel_rfl) (fun _ _ _ h => h) (by kernel_rfl) ?_ (by assumption) ?_
    rotate_left 1
    · (intro wS hSw; (try dsimp only at hSw); go_simp; try with_reducible rfl)
    try simp only [Act.put, List.setIfInBounds_toArray, List.set_cons_zero, List.set_cons_succ]
    refine rg_take (i := 2) (d := some 72) (l := #[true, true, true, false, false, false, false, false, false, false, false, false, false, false, false, false]) (fuel := 13) (v := ?_) rfl (by kernel_rfl) (by kernel_rfl) (by kernel_rfl) (by kernel_rfl) (by kernel_rfl) (fun _ _ _ h => h) (by kernel_rfl) ?_ (by assumption) ?_
    rotate_left 1
    · (intro wS hSw; (try dsimp only at hSw); go_simp; try with_reducible rfl)
    try simp only [Act.put, List.setIfInBounds_toArray, List.set_cons_zero, List.set_cons_succ]
    refine rg_take (i := 3) (d := some 73) (l := #[true, true, true, true, false, false, false, false, false, false, false, false, false, false, false, false]) (fuel := 12) (v := ?_) rfl (by kernel_rfl) (by kernel_rfl) (by kernel_rfl) (by kernel_rfl) (by kernel_rfl) (fun _ _ _ h => h) (by kernel_rfl) ?_ (by assumption) ?_
    rotate_left 1
    · (intro wS hSw; (try dsimp only at hSw); go_simp; try with_reducible rfl)
    try simp only [Act.put, List.setIfInBounds_toArray, List.set_cons_zero, List.set_cons_succ]
    refine rg_take (i := 5) (d := some 75) (l := #[true, true, true, true, false, true, false, false, false, false, false, false, false, false, false, false]) (fuel := 11) (v := ?_) rfl (by kernel_rfl) (by kernel_rfl) (by kernel_rfl) (by kernel_rfl) (by kernel_rfl) (fun _ _ _ h => h) (by kernel_rfl) ?_ (by assumption) ?_
    rotate_left 1
    · (intro wS hSw; (try dsimp only at hSw); go_simp; try with_reducible rfl)
    try simp only [Act.put, List.setIfInBounds_toArray, List.set_cons_zero, List.set_cons_succ]
    refine rg_take (i := 6) (d := some 76) (l := #[true, true, true, true, false, true, true, false, false, false, false, false, false, false, false, false]) (fuel := 10) (v := ?_) rfl (by kernel_rfl) (by kernel_rfl) (by kernel_rfl) (by kernel_rfl) (by kernel_rfl) (fun _ _ _ h => h) (by kernel_rfl) ?_ (by assumption) ?_
    rotate_left 1
    · (intro wS hSw; (try dsimp only at hSw); go_simp; try with_reducible rfl)
    try simp only [Act.put, List.setIfInBounds_toArray, List.set_cons_zero, List.set_cons_succ]
    refine rg_take (i := 7) (d := some 77) (l := #[true, true, true, true, false, true, true, true, false, false, false, false, false, false, false, false]) (fuel := 9) (v := ?_) rfl (by kernel_rfl) (by kernel_rfl) (by kernel_rfl) (by kernel_rfl) (by kernel_rfl) (fun _ _ _ h => h) (by kernel_rfl) ?_ (by assumption) ?_
    rotate_left 1
    · (intro wS hSw; (try dsimp only at hSw); go_simp; try with_reducible rfl)
    try simp only [Act.put, List.setIfInBounds_toArray, List.set_cons_zero, List.set_cons_succ]
    refine rg_take (i := 8) (d := some 78) (l := #[true, true, true, true, false, true, true, true, true, false, false, false, false, false, false, false]) (fuel := 8) (v := ?_) rfl (by kernel_rfl) (by kernel_rfl) (by kernel_rfl) (by kernel_rfl) (by kernel_rfl) (fun _ _ _ h => h) (by kernel_rfl) ?_ (by assumption) ?_
    rotate_left 1
    · (intro wS hSw; (try dsimp only at hSw); go_simp; try with_reducible rfl)
    try simp only [Act.put, List.setIfInBounds_toArray, List.set_cons_zero, List.set_cons_succ]
    refine rg_take (i := 9) (d := some 79) (l := #[true, true, true, true, false, true, true, true, true, true, false, false, false, false, false, false]) (fuel := 7) (v := ?_) rfl (by kernel_rfl) (by kernel_rfl) (by kernel_rfl) (by kernel_rfl) (by kernel_rfl) (fun _ _ _ h => h) (by kernel_rfl) ?_ (by assumption) ?_
    rotate_left 1
    · (intro wS hSw; (try dsimp only at hSw); go_simp; try with_reducible rfl)
    try simp only [Act.put, List.setIfInBounds_toArray, List.set_cons_zero, List.set_cons_succ]
    refine rg_take (i := 10) (d := some 80) (l := #[true, true, true, true, false, true, true, true, true, true, true, false, false, false, false, false]) (fuel := 6) (v := ?_) rfl (by kernel_rfl) (by kernel_rfl) (by kernel_rfl) (by kernel_rfl) (by kernel_rfl) (fun _ _ _ h => h) (by kernel_rfl) ?_ (by assumption) ?_
    rotate_left 1
    · (intro wS hSw; (try dsimp only at hSw); go_simp; try with_reducible rfl)
    try simp only [Act.put, List.setIfInBounds_toArray, List.set_cons_zero, List.set_cons_succ]
    refine rg_take (i := 11) (d := some 81) (l := #[true, true, true, true, false, true, true, true, true, true, true, true, false, false, false, false]) (fuel := 5) (v := ?_) rfl (by kernel_rfl) (by kernel_rfl) (by kernel_rfl) (by kernel_rfl) (by kernel_rfl) (fun _ _ _ h => h) (by kernel_rfl) ?_ (by assumption) ?_
    rotate_left 1
    · (intro wS hSw; (try dsimp only at hSw); go_simp; try with_reducible rfl)
    try simp only [Act.put, List.setIfInBounds_toArray, List.set_cons_zero, List.set_cons_succ]
    refine rg_next (i := 4) (l := #[true, true, true, true, true, true, true, true, true, true, true, true, false, false, false, false]) (fuel := 4) (by kernel_rfl) rfl (by kernel_rfl) (by kernel_rfl) (fun K hK => ?_)
    go_simp
    skip
    first | (refine hK.out _ _ ?_ (fun hHeld => ?_)) | (go_wp2_with fail; refine hK.out _ _ ?_ (fun hHeld => ?_))
    · (try dsimp only); exact ⟨ep, ec⟩
    clear hK K
    try simp only [Act.put, List.setIfInBounds_toArray, List.set_cons_zero, List.set_cons_succ]
    refine rg_next (i := 12) (l := #[true, true, true, true, true, true, true, true, true, true, true, true, true, false, false, false]) (fuel := 3) (by kernel_rfl) rfl (by kernel_rfl) (by kernel_rfl) (fun K hK => ?_)
    go_simp
    (go_at_call 79)
    refine (rread_v bu0 bu1 (by decide) (by decide) (by omega) (by omega) MV.out).mono ?_
    rintro e w4 ⟨rfl, b4⟩
    have H4 := Lib.hid ((H1.out.kp0 (Kp.refl _ _).drew).keep b4)
    have K4 : Hid (Kp (J.all r) w w4) := Lib.hid (K1.out.drew.trans (Kp.of_below (L := []) b4) (by simp))
    clear b4 ez
    have x0 := H4.out.cells.1
    have xp := H4.out.cells.2.2.1
    have xc : w4.cell? ⟨J.q, 0, none⟩ = some (.int .u8 x.q.d) := H4.out.q.1.cell 0
    have xf := H4.out.pg.frozen 0
    first | (refine hK.out _ _ ?_ (fun hHeld => ?_)) | (go_wp2_with fail; refine hK.out _ _ ?_ (fun hHeld => ?_))
    · (try dsimp only); exact ⟨xp, xc⟩
    clear hK K
    try simp only [Act.put, List.setIfInBounds_toArray, List.set_cons_zero, List.set_cons_succ]
    refine rg_take (i := 13) (d := some 83) (l := #[true, true, true, true, true, true, true, true, true, true, true, true, true, true, false, false]) (fuel := 2) (v := ?_) rfl (by kernel_rfl) (by kernel_rfl) (by kernel_rfl) (by kernel_rfl) (by kernel_rfl) (fun _ _ _ h => h) (by kernel_rfl) ?_ (by assumption) ?_
    rotate_left 1
    · (intro wS hSw; (try dsimp only at hSw); go_simp; try with_reducible rfl)
    try simp only [Act.put, List.setIfInBounds_toArray, List.set_cons_zero, List.set_cons_succ]
    refine rg_take (i := 14) (d := some 84) (l := #[true, true, true, true, true, true, true, true, true, true, true, true, true, true, true, false]) (fuel := 1) (v := ?_) rfl (by kernel_rfl) (by kernel_rfl) (by kernel_rfl) (by kernel_rfl) (by kernel_rfl) (fun _ _ _ h => h) (by kernel_rfl) ?_ (by assumption) ?_
    rotate_left 1
    · (intro wS hSw; (try dsimp only at hSw); go_simp; try with_reducible rfl)
    try simp only [Act.put, List.setIfInBounds_toArray, List.set_cons_zero, List.set_cons_succ]
    obtain ⟨r1, r2⟩ := H4.out.vbuf y
    have H5 := Lib.hid r1
    have K5 := Lib.hid (K4.out.trans (r2.mono (M := J.all r) (by simp [Rr.all])) (fun z hz => .inl hz))
    have wp := H5.out.cells.2.2.1
    have wc : (w4.setCell ⟨r, 0, none⟩ (.int .u8 y)).cell? ⟨J.q, 0, none⟩ = some (.int .u8 x.q.d) := H5.out.q.1.cell 0
    clear r1 r2
    refine rg_next (i := 15) (l := #[true, true, true, true, true, true, true, true, true, true, true, true, true, true, true, true]) (fuel := 0) (by kernel_rfl) rfl (by kernel_rfl) (by kernel_rfl) (fun K hK => ?_)
    go_simp
    skip
    first | (refine hK.out _ _ ?_ (fun hHeld => ?_)) | (go_wp2_with fail; refine hK.out _ _ ?_ (fun hHeld => ?_))
    · (try dsimp only); exact ⟨wp, wc⟩
    clear hK K
    try simp only [Act.put, List.setIfInBounds_toArray, List.set_cons_zero, List.set_cons_succ]
    refine wpAnyH_done (by kernel_rfl) ?_ _
    have x5 := H5.out.cells.1
    clear hHeld ep ec x0 xp xc xf wp wc
    generalize World.setCell _ _ _ = w5 at *
    go_wp2_with fail
    refine (rreg_v a0 a1 HREG.out).mono ?_
    rintro e w6 ⟨rfl, b6⟩
    have H6 := Lib.hid (H5.out.keep b6)
    have K6 := Lib.hid (K5.out.trans (Kp.of_below (L := []) b6) (by simp))
    have x6 := H6.out.cells.1
    clear b6
    go_wp2_with fail
    go_ret
    exact ⟨rfl, H6.out, K6.out⟩
set_option maxHeartbeats 4000000 in
theorem rhread83 (h : RHp w r d J Z x) (hok : x.ok d) (hR : Rws w d Z) (hn : d.np ≤ 140737488355328 ∧ d.nv ≤ 140737488355328 ∧ d.nc ≤ 140737488355328) (hl : x.lim 1000000) (hpb : 0 ≤ peekI (d.np - x.tp) (fun i => d.zp (x.tp + i)) 0 ∧ peekI (d.np - x.tp) (fun i => d.zp (x.tp + i)) 0 ≤ 255) (hG : Good d.n d.es) (off : Int) (o0 : 0 ≤ off) (o1 : off ≤ 65535) (hk : whereI (plA off) = 8) (hreg : regI (plA off) = 3) :
    Calls Tryz.prog 43 #[.pointer (some ⟨r, 0, none⟩), .int .u16 off] w (RhR (.int .u8 (mixI x.buf 7 (stV x.q.due (upTo d.es x.s 2) (upTo d.es x.s 3)))) r d J Z { x with buf := mixI x.buf 7 (stV x.q.due (upTo d.es x.s 2) (upTo d.es x.s 3)) } (J.all r) w) := by
    obtain ⟨a0, a1⟩ := plA_bd off o0
    have bu0 := hok.2.2.1.1
    have bu1 := hok.2.2.1.2
    have tc0 := hok.1.2.1
    have k7 := hok.2.2.2.1
    have hs := hok.2.1
    have hn1 := hG.1
    have H := Lib.hid h
    have HK := Lib.hid hk
    have HL := Lib.hid hl
    have HR := Lib.hid hR
    have HPB := Lib.hid hpb
    clear h hk hl hR hok hpb hG
    have HREG := Lib.hid hreg
    obtain ⟨u2, hu2⟩ : ∃ u, upTo d.es x.s 2 = u := ⟨_, rfl⟩
    obtain ⟨u3, hu3⟩ : ∃ u, upTo d.es x.s 3 = u := ⟨_, rfl⟩
    obtain ⟨sv, hsv⟩ : ∃ v, stV x.q.due u2 u3 = v := ⟨_, rfl⟩
    rw [hu2, hu3, hsv]
    have sb := stV_byte x.q.due u2 u3
    rw [hsv] at sb
    have U2 := Lib.hid hu2
    have U3 := Lib.hid hu3
    have HSV := Lib.hid hsv
    have SB := Lib.hid sb
    clear hreg hu2 hu3 hsv sb
    obtain ⟨y, hy⟩ : ∃ y, mixI x.buf 7 sv = y := ⟨_, rfl⟩
    rw [hy]
    have MV := Lib.hid hy
    clear hy
    go_enter Tryz.func43, Tryz.ntmps43
    go_wp2_with fail
    refine (rat_v o0 o1 rfl).mono ?_
    rintro e w' ⟨rfl, rfl⟩
    go_wp2_with fail
    refine (rwhere_v a0 a1 HK.out).mono ?_
    rintro e w1 ⟨rfl, b1⟩
    have H1 := Lib.hid (H.out.keep b1)
    have R1 := Lib.hid (HR.out.keep b1)
    have K1 : Hid (Kp (J.all r) w w1) := Lib.hid (Kp.of_below b1)
    obtain ⟨e0, e1, e2, e3, e4, e5, e6, e7⟩ := H1.out.cells
    clear b1 H HR
    go_wp2_with fail
    refine (rreg_v a0 a1 HREG.out).mono ?_
    rintro e w2 ⟨rfl, b2⟩
    have H2 := Lib.hid (H1.out.keep b2)
    have R2 := Lib.hid (R1.out.keep b2)
    have K2 : Hid (Kp (J.all r) w w2) := Lib.hid (K1.out.trans (Kp.of_below (L := []) b2) (by simp))
    clear b2 H1 R1 K1
    have H1 := H2
    have R1 := R2
    have K1 := K2
    clear H2 R2 K2
    clear e0 e1 e2 e3 e4 e5 e6 e7
    obtain ⟨e0, e1, e2, e3, e4, e5, e6, e7⟩ := H1.out.cells
    go_wp2_with fail
    refine (rreg_v a0 a1 HREG.out).mono ?_
    rintro e w2 ⟨rfl, b2⟩
    have H2 := Lib.hid (H1.out.keep b2)
    have R2 := Lib.hid (R1.out.keep b2)
    have K2 : Hid (Kp (J.all r) w w2) := Lib.hid (K1.out.trans (Kp.of_below (L := []) b2) (by simp))
    clear b2 H1 R1 K1
    have H1 := H2
    have R1 := R2
    have K1 := K2
    clear H2 R2 K2
    clear e0 e1 e2 e3 e4 e5 e6 e7
    obtain ⟨e0, e1, e2, e3, e4, e5, e6, e7⟩ := H1.out.cells
    go_wp2_with fail
    have ez := H1.out.cells.1
    have ep2 := H1.out.cells.2.2.1
    have ep6 := H1.out.cells.2.2.2.2.2.2.1
    clear e0 e1 e2 e3 e4 e5 e6 e7
    refine rg_begin (S := fun w' => w'.cell? ⟨r, 2, none⟩ = some (.pointer (some ⟨J.q, 0, none⟩)) ∧ w'.cell? ⟨r, 6, none⟩ = some (.pointer (some ⟨J.l, 0, none⟩))) 24 #[false, false, false, false, false, false, false, false, false, false, false, false, false, false, false, false, false, false, false, false, false, false, false, false] (by kernel_rfl) (by kernel_rfl) (by kernel_rfl) ?_ (fun hHeld => ?_)
    · exact ⟨ep2, ep6⟩
    refine rg_take (i := 0) (d := some 88) (l := #[true, false, false, false, false, false, false, false, false, false, false, false, false, false, false, false, false, false, false, false, false, false, false, false]) (fuel := 23) (v := ?_) rfl (by kernel_rfl) (by kernel_rfl) (by kernel_rfl) (by kernel_rfl) (by kernel_rfl) (fun _ _ _ h => h) (by kernel_rfl) ?_ (by assumption) ?_
    rotate_left 1
    · (intro wS hSw; (try dsimp only at hSw); go_simp; try with_reducible rfl)
    try simp only [Act.put, List.setIfInBounds_toArray, List.set_cons_zero, List.set_cons_succ]
    refine rg_take (i := 1) (d := some 89) (l := #[true, true, false, false, false, false, false, false, false, false, false, false, false, false, false, false, false, false, false, false, false, false, false, false]) (fuel := 22) (v := ?_) rfl (by kernel_rfl) (by kernel_rfl) (by kernel_rfl) (by kernel_rfl) (by kernel_rfl) (fun _ _ _ h => h) (by kernel_rfl) ?_ (by assumption) ?_
    rotate_left 1
    · (intro wS hSw; (try dsimp only at hSw); go_simp; try with_reducible rfl)
    try simp only [Act.put, List.setIfInBounds_toArray, List.set_cons_zero, List.set_cons_succ]
    refine rg_take (i := 2) (d := some 90) (l := #[true, true, true, false, false, false, false, false, false, false, false, false, false, false, false, false, false, false, false, false, false, false, false, false]) (fuel := 21) (v := ?_) rfl (by kernel_rfl) (by kernel_rfl) (by kernel_rfl) (by kernel_rfl) (by kernel_rfl) (fun _ _ _ h => h) (by kernel_rfl) ?_ (by assumption) ?_
    rotate_left 1
    · (intro wS hSw; (try dsimp only at hSw); go_simp; try with_reducible rfl)
    try simp only [Act.put, List.setIfInBounds_toArray, List.set_cons_zero, List.set_cons_succ]
    refine rg_take (i := 3) (d := some 91) (l := #[true, true, true, true, false, false, false, false, false, false, false, false, false, false, false, false, false, false, false, false, false, false, false, false]) (fuel := 20) (v := ?_) rfl (by kernel_rfl) (by kernel_rfl) (by kernel_rfl) (by kernel_rfl) (by kernel_rfl) (fun _ _ _ h => h) (by kernel_rfl) ?_ (by assumption) ?_
    rotate_left 1
    · (intro wS hSw; (try dsimp only at hSw); go_simp; try with_reducible rfl)
    try simp only [Act.put, List.setIfInBounds_toArray, List.set_cons_zero, List.set_cons_succ]
    refine rg_take (i := 5) (d := some 93) (l := #[true, true, true, true, false, true, false, false, false, false, false, false, false, false, false, false, false, false, false, false, false, false, false, false]) (fuel := 19) (v := ?_) rfl (by kernel_rfl) (by kernel_rfl) (by kernel_rfl) (by kernel_rfl) (by kernel_rfl) (fun _ _ _ h => h) (by kernel_rfl) ?_ (by assumption) ?_
    rotate_left 1
    · (intro wS hSw; (try dsimp only at hSw); go_simp; try with_reducible rfl)
    try simp only [Act.put, List.setIfInBounds_toArray, List.set_cons_zero, List.set_cons_succ]
    refine rg_take (i := 6) (d := some 94) (l := #[true, true, true, true, false, true, true, false, false, false, false, false, false, false, false, false, false, false, false, false, false, false, false, false]) (fuel := 18) (v := ?_) rfl (by kernel_rfl) (by kernel_rfl) (by kernel_rfl) (by kernel_rfl) (by kernel_rfl) (fun _ _ _ h => h) (by kernel_rfl) ?_ (by assumption) ?_
    rotate_left 1
    · (intro wS hSw; (try dsimp only at hSw); go_simp; try with_reducible rfl)
    try simp only [Act.put, List.setIfInBounds_toArray, List.set_cons_zero, List.set_cons_succ]
    refine rg_take (i := 7) (d := some 95) (l := #[true, true, true, true, false, true, true, true, false, false, false, false, false, false, false, false, false, false, false, false, false, false, false, false]) (fuel := 17) (v := ?_) rfl (by kernel_rfl) (by kernel_rfl) (by kernel_rfl) (by kernel_rfl) (by kernel_rfl) (fun _ _ _ h => h) (by kernel_rfl) ?_ (by assumption) ?_
    rotate_left 1
    · (intro wS hSw; (try dsimp only at hSw); go_simp; try with_reducible rfl)
    try simp only [Act.put, List.setIfInBounds_toArray, List.set_cons_zero, List.set_cons_succ]
    refine rg_take (i := 8) (d := some 96) (l := #[true, true, true, true, false, true, true, true, true, false, false, false, false, false, false, false, false, false, false, false, false, false, false, false]) (fuel := 16) (v := ?_) rfl (by kernel_rfl) (by kernel_rfl) (by kernel_rfl) (by kernel_rfl) (by kernel_rfl) (fun _ _ _ h => h) (by kernel_rfl) ?_ (by assumption) ?_
    rotate_left 1
    · (intro wS hSw; (try dsimp only at hSw); go_simp; try with_reducible rfl)
    try simp only [Act.put, List.setIfInBounds_toArray, List.set_cons_zero, List.set_cons_succ]
    refine rg_take (i := 9) (d := some 97) (l := #[true, true, true, true, false, true, true, true, true, true, false, false, false, false, false, false, false, false, false, false, false, false, false, false]) (fuel := 15) (v := ?_) rfl (by kernel_rfl) (by kernel_rfl) (by kernel_rfl) (by kernel_rfl) (by kernel_rfl) (fun _ _ _ h => h) (by kernel_rfl) ?_ (by assumption) ?_
    rotate_left 1
    · (intro wS hSw; (try dsimp only at hSw); go_simp; try with_reducible rfl)
    try simp only [Act.put, List.setIfInBounds_toArray, List.set_cons_zero, List.set_cons_succ]
    refine rg_take (i := 10) (d := some 98) (l := #[true, true, true, true, false, true, true, true, true, true, true, false, false, false, false, false, false, false, false, false, false, false, false, false]) (fuel := 14) (v := ?_) rfl (by kernel_rfl) (by kernel_rfl) (by kernel_rfl) (by kernel_rfl) (by kernel_rfl) (fun _ _ _ h => h) (by kernel_rfl) ?_ (by assumption) ?_
    rotate_left 1
    · (intro wS hSw; (try dsimp only at hSw); go_simp; try with_reducible rfl)
    try simp only [Act.put, List.setIfInBounds_toArray, List.set_cons_zero, List.set_cons_succ]
    refine rg_take (i := 11) (d := some 99) (l := #[true, true, true, true, false, true, true, true, true, true, true, true, false, false, false, false, false, false, false, false, false, false, false, false]) (fuel := 13) (v := ?_) rfl (by kernel_rfl) (by kernel_rfl) (by kernel_rfl) (by kernel_rfl) (by kernel_rfl) (fun _ _ _ h => h) (by kernel_rfl) ?_ (by assumption) ?_
    rotate_left 1
    · (intro wS hSw; (try dsimp only at hSw); go_simp; try with_reducible rfl)
    try simp only [Act.put, List.setIfInBounds_toArray, List.set_cons_zero, List.set_cons_succ]
    refine rg_take (i := 12) (d := some 100) (l := #[true, true, true, true, false, true, true, true, true, true, true, true, true, false, false, false, false, false, false, false, false, false, false, false]) (fuel := 12) (v := ?_) rfl (by kernel_rfl) (by kernel_rfl) (by kernel_rfl) (by kernel_rfl) (by kernel_rfl) (fun _ _ _ h => h) (by kernel_rfl) ?_ (by assumption) ?_
    rotate_left 1
    · (intro wS hSw; (try dsimp only at hSw); go_simp; try with_reducible rfl)
    try simp only [Act.put, List.setIfInBounds_toArray, List.set_cons_zero, List.set_cons_succ]
    refine rg_take (i := 14) (d := some 102) (l := #[true, true, true, true, false, true, true, true, true, true, true, true, true, false, true, false, false, false, false, false, false, false, false, false]) (fuel := 11) (v := ?_) rfl (by kernel_rfl) (by kernel_rfl) (by kernel_rfl) (by kernel_rfl) (by kernel_rfl) (fun _ _ _ h => h) (by kernel_rfl) ?_ (by assumption) ?_
    rotate_left 1
    · (intro wS hSw; (try dsimp only at hSw); go_simp; try with_reducible rfl)
    try simp only [Act.put, List.setIfInBounds_toArray, List.set_cons_zero, List.set_cons_succ]
    refine rg_take (i := 15) (d := some 103) (l := #[true, true, true, true, false, true, true, true, true, true, true, true, true, false, true, true, false, false, false, false, false, false, false, false]) (fuel := 10) (v := ?_) rfl (by kernel_rfl) (by kernel_rfl) (by kernel_rfl) (by kernel_rfl) (by kernel_rfl) (fun _ _ _ h => h) (by kernel_rfl) ?_ (by assumption) ?_
    rotate_left 1
    · (intro wS hSw; (try dsimp only at hSw); go_simp; try with_reducible rfl)
    try simp only [Act.put, List.setIfInBounds_toArray, List.set_cons_zero, List.set_cons_succ]
    refine rg_take (i := 16) (d := some 104) (l := #[true, true, true, true, false, true, true, true, true, true, true, true, true, false, true, true, true, false, false, false, false, false, false, false]) (fuel := 9) (v := ?_) rfl (by kernel_rfl) (by kernel_rfl) (by kernel_rfl) (by kernel_rfl) (by kernel_rfl) (fun _ _ _ h => h) (by kernel_rfl) ?_ (by assumption) ?_
    rotate_left 1
    · (intro wS hSw; (try dsimp only at hSw); go_simp; try with_reducible rfl)
    try simp only [Act.put, List.setIfInBounds_toArray, List.set_cons_zero, List.set_cons_succ]
    refine rg_take (i := 17) (d := some 105) (l := #[true, true, true, true, false, true, true, true, true, true, true, true, true, false, true, true, true, true, false, false, false, false, false, false]) (fuel := 8) (v := ?_) rfl (by kernel_rfl) (by kernel_rfl) (by kernel_rfl) (by kernel_rfl) (by kernel_rfl) (fun _ _ _ h => h) (by kernel_rfl) ?_ (by assumption) ?_
    rotate_left 1
    · (intro wS hSw; (try dsimp only at hSw); go_simp; try with_reducible rfl)
    try simp only [Act.put, List.setIfInBounds_toArray, List.set_cons_zero, List.set_cons_succ]
    refine rg_of (rs := [4, 13]) (fuel := 7) (by kernel_rfl) rfl ?_
    refine rg_step (i := 4) (l := #[true, true, true, true, true, true, true, true, true, true, true, true, true, false, true, true, true, true, false, false, false, false, false, false]) rfl (by kernel_rfl) (by kernel_rfl) ?_ ?_
    · intro K hK
      go_simp
      skip
      first | (refine hK.out _ _ ?_ (fun hHeld => ?_)) | (go_wp2_with fail; refine hK.out _ _ ?_ (fun hHeld => ?_))
      · (try dsimp only); exact ⟨ep2, ep6⟩
      clear hK K
      try simp only [Act.put, List.setIfInBounds_toArray, List.set_cons_zero, List.set_cons_succ]
      refine rg_next (i := 13) (l := #[true, true, true, true, true, true, true, true, true, true, true, true, true, true, true, true, true, true, false, false, false, false, false, false]) (fuel := 6) (by kernel_rfl) rfl (by kernel_rfl) (by kernel_rfl) (fun K hK => ?_)
      go_simp
      (go_at_call 82)
      refine (rhup_v (H1.out.kp0 (Kp.refl _ _).drew) hs hn1 (FRow.kp R1.out.e (L := []) (Kp.refl _ _).drew (by simp)) 2 U2.out).mono ?_
      rintro e w' ⟨rfl, rfl⟩
      first | (refine hK.out _ _ ?_ (fun hHeld => ?_)) | (go_wp2_with fail; refine hK.out _ _ ?_ (fun hHeld => ?_))
      · (try dsimp only); exact ⟨ep2, ep6⟩
      clear hK K
      try simp only [Act.put, List.setIfInBounds_toArray, List.set_cons_zero, List.set_cons_succ]
      refine rg_next (i := 18) (l := #[true, true, true, true, true, true, true, true, true, true, true, true, true, true, true, true, true, true, true, false, false, false, false, false]) (fuel := 5) (by kernel_rfl) rfl (by kernel_rfl) (by kernel_rfl) (fun K hK => ?_)
      go_simp
      (go_at_call 82)
      refine (rhup_v (H1.out.kp0 (Kp.refl _ _).drew) hs hn1 (FRow.kp R1.out.e (L := []) (Kp.refl _ _).drew (by simp)) 3 U3.out).mono ?_
      rintro e w' ⟨rfl, rfl⟩
      first | (refine hK.out _ _ ?_ (fun hHeld => ?_)) | (go_wp2_with fail; refine hK.out _ _ ?_ (fun hHeld => ?_))
      · (try dsimp only); exact ⟨ep2, ep6⟩
      clear hK K
      try simp only [Act.put, List.setIfInBounds_toArray, List.set_cons_zero, List.set_cons_succ]
      refine rg_next (i := 19) (l := #[true, true, true, true, true, true, true, true, true, true, true, true, true, true, true, true, true, true, true, true, false, false, false, false]) (fuel := 4) (by kernel_rfl) rfl (by kernel_rfl) (by kernel_rfl) (fun K hK => ?_)
      go_simp
      (go_at_call 81)
      refine (rqstatus_v (H1.out.kp0 (Kp.refl _ _).drew).q HSV.out).mono ?_
      rintro e w3 ⟨rfl, b3⟩
      have H3 := Lib.hid ((H1.out.kp0 (Kp.refl _ _).drew).keep b3)
      have K3 : Hid (Kp (J.all r) w w3) := Lib.hid (K1.out.drew.trans (Kp.of_below (L := []) b3) (by simp))
      clear b3 ez ep2 ep6
      have ez := H3.out.cells.1
      have ep2 := H3.out.cells.2.2.1
      have ep6 := H3.out.cells.2.2.2.2.2.2.1
      first | (refine hK.out _ _ ?_ (fun hHeld => ?_)) | (go_wp2_with fail; refine hK.out _ _ ?_ (fun hHeld => ?_))
      · (try dsimp only); exact ⟨ep2, ep6⟩
      clear hK K
      try simp only [Act.put, List.setIfInBounds_toArray, List.set_cons_zero, List.set_cons_succ]
      refine rg_next (i := 20) (l := #[true, true, true, true, true, true, true, true, true, true, true, true, true, true, true, true, true, true, true, true, true, false, false, false]) (fuel := 3) (by kernel_rfl) rfl (by kernel_rfl) (by kernel_rfl) (fun K hK => ?_)
      go_simp
      (go_at_call 79)
      refine (rread_v bu0 bu1 (by decide) (by decide) SB.out.1 SB.out.2 MV.out).mono ?_
      rintro e w4 ⟨rfl, b4⟩
      have H4 := Lib.hid (H3.out.keep b4)
      have K4 : Hid (Kp (J.all r) w w4) := Lib.hid (K3.out.trans (Kp.of_below (L := []) b4) (by simp))
      clear b4 ez ep2 ep6
      have ez := H4.out.cells.1
      have ep2 := H4.out.cells.2.2.1
      have ep6 := H4.out.cells.2.2.2.2.2.2.1
      have xf := H4.out.pg.frozen 0
      first | (refine hK.out _ _ ?_ (fun hHeld => ?_)) | (go_wp2_with fail; refine hK.out _ _ ?_ (fun hHeld => ?_))
      · (try dsimp only); exact ⟨ep2, ep6⟩
      clear hK K
      try simp only [Act.put, List.setIfInBounds_toArray, List.set_cons_zero, List.set_cons_succ]
      refine rg_take (i := 21) (d := some 109) (l := #[true, true, true, true, true, true, true, true, true, true, true, true, true, true, true, true, true, true, true, true, true, true, false, false]) (fuel := 2) (v := ?_) rfl (by kernel_rfl) (by kernel_rfl) (by kernel_rfl) (by kernel_rfl) (by kernel_rfl) (fun _ _ _ h => h) (by kernel_rfl) ?_ (by assumption) ?_
      rotate_left 1
      · (intro wS hSw; (try dsimp only at hSw); go_simp; try with_reducible rfl)
      try simp only [Act.put, List.setIfInBounds_toArray, List.set_cons_zero, List.set_cons_succ]
      refine rg_take (i := 22) (d := some 110) (l := #[true, true, true, true, true, true, true, true, true, true, true, true, true, true, true, true, true, true, true, true, true, true, true, false]) (fuel := 1) (v := ?_) rfl (by kernel_rfl) (by kernel_rfl) (by kernel_rfl) (by kernel_rfl) (by kernel_rfl) (fun _ _ _ h => h) (by kernel_rfl) ?_ (by assumption) ?_
      rotate_left 1
      · (intro wS hSw; (try dsimp only at hSw); go_simp; try with_reducible rfl)
      try simp only [Act.put, List.setIfInBounds_toArray, List.set_cons_zero, List.set_cons_succ]
      obtain ⟨r1, r2⟩ := H4.out.vbuf y
      have H5 := Lib.hid r1
      have K5 := Lib.hid (K4.out.trans (r2.mono (M := J.all r) (by simp [Rr.all])) (fun z hz => .inl hz))
      have wp := H5.out.cells.2.2.1
      have wc := H5.out.cells.2.2.2.2.2.2.1
      clear r1 r2
      refine rg_next (i := 23) (l := #[true, true, true, true, true, true, true, true, true, true, true, true, true, true, true, true, true, true, true, true, true, true, true, true]) (fuel := 0) (by kernel_rfl) rfl (by kernel_rfl) (by kernel_rfl) (fun K hK => ?_)
      go_simp
      skip
      first | (refine hK.out _ _ ?_ (fun hHeld => ?_)) | (go_wp2_with fail; refine hK.out _ _ ?_ (fun hHeld => ?_))
      · (try dsimp only); exact ⟨wp, wc⟩
      clear hK K
      try simp only [Act.put, List.setIfInBounds_toArray, List.set_cons_zero, List.set_cons_succ]
      refine wpAnyH_done (by kernel_rfl) ?_ _
      have x5 := H5.out.cells.1
      clear hHeld ep2 ep6 ez xf wp wc
      generalize World.setCell _ _ _ = w5 at *
      go_wp2_with fail
      go_ret
      exact ⟨rfl, H5.out, K5.out⟩
    refine rg_step (i := 13) (l := #[true, true, true, true, false, true, true, true, true, true, true, true, true, true, true, true, true, true, false, false, false, false, false, false]) rfl (by kernel_rfl) (by kernel_rfl) ?_ ?_
    · intro K hK
      go_simp
      (go_at_call 82)
      refine (rhup_v (H1.out.kp0 (Kp.refl _ _).drew) hs hn1 (FRow.kp R1.out.e (L := []) (Kp.refl _ _).drew (by simp)) 2 U2.out).mono ?_
      rintro e w' ⟨rfl, rfl⟩
      first | (refine hK.out _ _ ?_ (fun hHeld => ?_)) | (go_wp2_with fail; refine hK.out _ _ ?_ (fun hHeld => ?_))
      · (try dsimp only); exact ⟨ep2, ep6⟩
      clear hK K
      try simp only [Act.put, List.setIfInBounds_toArray, List.set_cons_zero, List.set_cons_succ]
      refine rg_of (rs := [4, 18]) (fuel := 6) (by kernel_rfl) rfl ?_
      refine rg_step (i := 4) (l := #[true, true, true, true, true, true, true, true, true, true, true, true, true, true, true, true, true, true, false, false, false, false, false, false]) rfl (by kernel_rfl) (by kernel_rfl) ?_ ?_
      · intro K hK
        go_simp
        skip
        first | (refine hK.out _ _ ?_ (fun hHeld => ?_)) | (go_wp2_with fail; refine hK.out _ _ ?_ (fun hHeld => ?_))
        · (try dsimp only); exact ⟨ep2, ep6⟩
        clear hK K
        try simp only [Act.put, List.setIfInBounds_toArray, List.set_cons_zero, List.set_cons_succ]
        refine rg_next (i := 18) (l := #[true, true, true, true, true, true, true, true, true, true, true, true, true, true, true, true, true, true, true, false, false, false, false, false]) (fuel := 5) (by kernel_rfl) rfl (by kernel_rfl) (by kernel_rfl) (fun K hK => ?_)
        go_simp
        (go_at_call 82)
        refine (rhup_v (H1.out.kp0 (Kp.refl _ _).drew) hs hn1 (FRow.kp R1.out.e (L := []) (Kp.refl _ _).drew (by simp)) 3 U3.out).mono ?_
        rintro e w' ⟨rfl, rfl⟩
        first | (refine hK.out _ _ ?_ (fun hHeld => ?_)) | (go_wp2_with fail; refine hK.out _ _ ?_ (fun hHeld => ?_))
        · (try dsimp only); exact ⟨ep2, ep6⟩
        clear hK K
        try simp only [Act.put, List.setIfInBounds_toArray, List.set_cons_zero, List.set_cons_succ]
        refine rg_next (i := 19) (l := #[true, true, true, true, true, true, true, true, true, true, true, true, true, true, true, true, true, true, true, true, false, false, false, false]) (fuel := 4) (by kernel_rfl) rfl (by kernel_rfl) (by kernel_rfl) (fun K hK => ?_)
        go_simp
        (go_at_call 81)
        refine (rqstatus_v (H1.out.kp0 (Kp.refl _ _).drew).q HSV.out).mono ?_
        rintro e w3 ⟨rfl, b3⟩
        have H3 := Lib.hid ((H1.out.kp0 (Kp.refl _ _).drew).keep b3)
        have K3 : Hid (Kp (J.all r) w w3) := Lib.hid (K1.out.drew.trans (Kp.of_below (L := []) b3) (by simp))
        clear b3 ez ep2 ep6
        have ez := H3.out.cells.1
        have ep2 := H3.out.cells.2.2.1
        have ep6 := H3.out.cells.2.2.2.2.2.2.1
        first | (refine hK.out _ _ ?_ (fun hHeld => ?_)) | (go_wp2_with fail; refine hK.out _ _ ?_ (fun hHeld => ?_))
        · (try dsimp only); exact ⟨ep2, ep6⟩
        clear hK K
        try simp only [Act.put, List.setIfInBounds_toArray, List.set_cons_zero, List.set_cons_succ]
        refine rg_next (i := 20) (l := #[true, true, true, true, true, true, true, true, true, true, true, true, true, true, true, true, true, true, true, true, true, false, false, false]) (fuel := 3) (by kernel_rfl) rfl (by kernel_rfl) (by kernel_rfl) (fun K hK => ?_)
        go_simp
        (go_at_call 79)
        refine (rread_v bu0 bu1 (by decide) (by decide) SB.out.1 SB.out.2 MV.out).mono ?_
        rintro e w4 ⟨rfl, b4⟩
        have H4 := Lib.hid (H3.out.keep b4)
        have K4 : Hid (Kp (J.all r) w w4) := Lib.hid (K3.out.trans (Kp.of_below (L := []) b4) (by simp))
        clear b4 ez ep2 ep6
        have ez := H4.out.cells.1
        have ep2 := H4.out.cells.2.2.1
        have ep6 := H4.out.cells.2.2.2.2.2.2.1
        have xf := H4.out.pg.frozen 0
        first | (refine hK.out _ _ ?_ (fun hHeld => ?_)) | (go_wp2_with fail; refine hK.out _ _ ?_ (fun hHeld => ?_))
        · (try dsimp only); exact ⟨ep2, ep6⟩
        clear hK K
        try simp only [Act.put, List.setIfInBounds_toArray, List.set_cons_zero, List.set_cons_succ]
        refine rg_take (i := 21) (d := some 109) (l := #[true, true, true, true, true, true, true, true, true, true, true, true, true, true, true, true, true, true, true, true, true, true, false, false]) (fuel := 2) (v := ?_) rfl (by kernel_rfl) (by kernel_rfl) (by kernel_rfl) (by kernel_rfl) (by kernel_rfl) (fun _ _ _ h => h) (by kernel_rfl) ?_ (by assumption) ?_
        rotate_left 1
        · (intro wS hSw; (try dsimp only at hSw); go_simp; try with_reducible rfl)
        try simp only [Act.put, List.setIfInBounds_toArray, List.set_cons_zero, List.set_cons_succ]
        refine rg_take (i := 22) (d := some 110) (l := #[true, true, true, true, true, true, true, true, true, true, true, true, true, true, true, true, true, true, true, true, true, true, true, false]) (fuel := 1) (v := ?_) rfl (by kernel_rfl) (by kernel_rfl) (by kernel_rfl) (by kernel_rfl) (by kernel_rfl) (fun _ _ _ h => h) (by kernel_rfl) ?_ (by assumption) ?_
        rotate_left 1
        · (intro wS hSw; (try dsimp only at hSw); go_simp; try with_reducible rfl)
        try simp only [Act.put, List.setIfInBounds_toArray, List.set_cons_zero, List.set_cons_succ]
        obtain ⟨r1, r2⟩ := H4.out.vbuf y
        have H5 := Lib.hid r1
        have K5 := Lib.hid (K4.out.trans (r2.mono (M := J.all r) (by simp [Rr.all])) (fun z hz => .inl hz))
        have wp := H5.out.cells.2.2.1
        have wc := H5.out.cells.2.2.2.2.2.2.1
        clear r1 r2
        refine rg_next (i := 23) (l := #[true, true, true, true, true, true, true, true, true, true, true, true, true, true, true, true, true, true, true, true, true, true, true, true]) (fuel := 0) (by kernel_rfl) rfl (by kernel_rfl) (by kernel_rfl) (fun K hK => ?_)
        go_simp
        skip
        first | (refine hK.out _ _ ?_ (fun hHeld => ?_)) | (go_wp2_with fail; refine hK.out _ _ ?_ (fun hHeld => ?_))
        · (try dsimp only); exact ⟨wp, wc⟩
        clear hK K
        try simp only [Act.put, List.setIfInBounds_toArray, List.set_cons_zero, List.set_cons_succ]
        refine wpAnyH_done (by kernel_rfl) ?_ _
        have x5 := H5.out.cells.1
        clear hHeld ep2 ep6 ez xf wp wc
        generalize World.setCell _ _ _ = w5 at *
        go_wp2_with fail
        go_ret
        exact ⟨rfl, H5.out, K5.out⟩
      refine rg_step (i := 18) (l := #[true, true, true, true, false, true, true, true, true, true, true, true, true, true, true, true, true, true, true, false, false, false, false, false]) rfl (by kernel_rfl) (by kernel_rfl) ?_ ?_
      · intro K hK
        go_simp
        (go_at_call 82)
        refine (rhup_v (H1.out.kp0 (Kp.refl _ _).drew) hs hn1 (FRow.kp R1.out.e (L := []) (Kp.refl _ _).drew (by simp)) 3 U3.out).mono ?_
        rintro e w' ⟨rfl, rfl⟩
        first | (refine hK.out _ _ ?_ (fun hHeld => ?_)) | (go_wp2_with fail; refine hK.out _ _ ?_ (fun hHeld => ?_))
        · (try dsimp only); exact ⟨ep2, ep6⟩
        clear hK K
        try simp only [Act.put, List.setIfInBounds_toArray, List.set_cons_zero, List.set_cons_succ]
        refine rg_of (rs := [4, 19]) (fuel := 5) (by kernel_rfl) rfl ?_
        refine rg_step (i := 4) (l := #[true, true, true, true, true, true, true, true, true, true, true, true, true, true, true, true, true, true, true, false, false, false, false, false]) rfl (by kernel_rfl) (by kernel_rfl) ?_ ?_
        · intro K hK
          go_simp
          skip
          first | (refine hK.out _ _ ?_ (fun hHeld => ?_)) | (go_wp2_with fail; refine hK.out _ _ ?_ (fun hHeld => ?_))
          · (try dsimp only); exact ⟨ep2, ep6⟩
          clear hK K
          try simp only [Act.put, List.setIfInBounds_toArray, List.set_cons_zero, List.set_cons_succ]
          refine rg_next (i := 19) (l := #[true, true, true, true, true, true, true, true, true, true, true, true, true, true, true, true, true, true, true, true, false, false, false, false]) (fuel := 4) (by kernel_rfl) rfl (by kernel_rfl) (by kernel_rfl) (fun K hK => ?_)
          go_simp
          (go_at_call 81)
          refine (rqstatus_v (H1.out.kp0 (Kp.refl _ _).drew).q HSV.out).mono ?_
          rintro e w3 ⟨rfl, b3⟩
          have H3 := Lib.hid ((H1.out.kp0 (Kp.refl _ _).drew).keep b3)
          have K3 : Hid (Kp (J.all r) w w3) := Lib.hid (K1.out.drew.trans (Kp.of_below (L := []) b3) (by simp))
          clear b3 ez ep2 ep6
          have ez := H3.out.cells.1
          have ep2 := H3.out.cells.2.2.1
          have ep6 := H3.out.cells.2.2.2.2.2.2.1
          first | (refine hK.out _ _ ?_ (fun hHeld => ?_)) | (go_wp2_with fail; refine hK.out _ _ ?_ (fun hHeld => ?_))
          · (try dsimp only); exact ⟨ep2, ep6⟩
          clear hK K
          try simp only [Act.put, List.setIfInBounds_toArray, List.set_cons_zero, List.set_cons_succ]
          refine rg_next (i := 20) (l := #[true, true, true, true, true, true, true, true, true, true, true, true, true, true, true, true, true, true, true, true, true, false, false, false]) (fuel := 3) (by kernel_rfl) rfl (by kernel_rfl) (by kernel_rfl) (fun K hK => ?_)
          go_simp
          (go_at_call 79)
          refine (rread_v bu0 bu1 (by decide) (by decide) SB.out.1 SB.out.2 MV.out).mono ?_
          rintro e w4 ⟨rfl, b4⟩
          have H4 := Lib.hid (H3.out.keep b4)
          have K4 : Hid (Kp (J.all r) w w4) := Lib.hid (K3.out.trans (Kp.of_below (L := []) b4) (by simp))
          clear b4 ez ep2 ep6
          have ez := H4.out.cells.1
          have ep2 := H4.out.cells.2.2.1
          have ep6 := H4.out.cells.2.2.2.2.2.2.1
          have xf := H4.out.pg.frozen 0
          first | (refine hK.out _ _ ?_ (fun hHeld => ?_)) | (go_wp2_with fail; refine hK.out _ _ ?_ (fun hHeld => ?_))
          · (try dsimp only); exact ⟨ep2, ep6⟩
          clear hK K
          try simp only [Act.put, List.setIfInBounds_toArray, List.set_cons_zero, List.set_cons_succ]
          refine rg_take (i := 21) (d := some 109) (l := #[true, true, true, true, true, true, true, true, true, true, true, true, true, true, true, true, true, true, true, true, true, true, false, false]) (fuel := 2) (v := ?_) rfl (by kernel_rfl) (by kernel_rfl) (by kernel_rfl) (by kernel_rfl) (by kernel_rfl) (fun _ _ _ h => h) (by kernel_rfl) ?_ (by assumption) ?_
          rotate_left 1
          · (intro wS hSw; (try dsimp only at hSw); go_simp; try with_reducible rfl)
          try simp only [Act.put, List.setIfInBounds_toArray, List.set_cons_zero, List.set_cons_succ]
          refine rg_take (i := 22) (d := some 110) (l := #[true, true, true, true, true, true, true, true, true, true, true, true, true, true, true, true, true, true, true, true, true, true, true, false]) (fuel := 1) (v := ?_) rfl (by kernel_rfl) (by kernel_rfl) (by kernel_rfl) (by kernel_rfl) (by kernel_rfl) (fun _ _ _ h => h) (by kernel_rfl) ?_ (by assumption) ?_
          rotate_left 1
          · (intro wS hSw; (try dsimp only at hSw); go_simp; try with_reducible rfl)
          try simp only [Act.put, List.setIfInBounds_toArray, List.set_cons_zero, List.set_cons_succ]
          obtain ⟨r1, r2⟩ := H4.out.vbuf y
          have H5 := Lib.hid r1
          have K5 := Lib.hid (K4.out.trans (r2.mono (M := J.all r) (by simp [Rr.all])) (fun z hz => .inl hz))
          have wp := H5.out.cells.2.2.1
          have wc := H5.out.cells.2.2.2.2.2.2.1
          clear r1 r2
          refine rg_next (i := 23) (l := #[true, true, true, true, true, true, true, true, true, true, true, true, true, true, true, true, true, true, true, true, true, true, true, true]) (fuel := 0) (by kernel_rfl) rfl (by kernel_rfl) (by kernel_rfl) (fun K hK => ?_)
          go_simp
          skip
          first | (refine hK.out _ _ ?_ (fun hHeld => ?_)) | (go_wp2_with fail; refine hK.out _ _ ?_ (fun hHeld => ?_))
          · (try dsimp only); exact ⟨wp, wc⟩
          clear hK K
          try simp only [Act.put, List.setIfInBounds_toArray, List.set_cons_zero, List.set_cons_succ]
          refine wpAnyH_done (by kernel_rfl) ?_ _
          have x5 := H5.out.cells.1
          clear hHeld ep2 ep6 ez xf wp wc
          generalize World.setCell _ _ _ = w5 at *
          go_wp2_with fail
          go_ret
          exact ⟨rfl, H5.out, K5.out⟩
        refine rg_step (i := 19) (l := #[true, true, true, true, false, true, true, true, true, true, true, true, true, true, true, true, true, true, true, true, false, false, false, false]) rfl (by kernel_rfl) (by kernel_rfl) ?_ ?_
        · intro K hK
          go_simp
          (go_at_call 81)
          refine (rqstatus_v (H1.out.kp0 (Kp.refl _ _).drew).q HSV.out).mono ?_
          rintro e w3 ⟨rfl, b3⟩
          have H3 := Lib.hid ((H1.out.kp0 (Kp.refl _ _).drew).keep b3)
          have K3 : Hid (Kp (J.all r) w w3) := Lib.hid (K1.out.drew.trans (Kp.of_below (L := []) b3) (by simp))
          clear b3 ez ep2 ep6
          have ez := H3.out.cells.1
          have ep2 := H3.out.cells.2.2.1
          have ep6 := H3.out.cells.2.2.2.2.2.2.1
          first | (refine hK.out _ _ ?_ (fun hHeld => ?_)) | (go_wp2_with fail; refine hK.out _ _ ?_ (fun hHeld => ?_))
          · (try dsimp only); exact ⟨ep2, ep6⟩
          clear hK K
          try simp only [Act.put, List.setIfInBounds_toArray, List.set_cons_zero, List.set_cons_succ]
          refine rg_next (i := 4) (l := #[true, true, true, true, true, true, true, true, true, true, true, true, true, true, true, true, true, true, true, true, false, false, false, false]) (fuel := 4) (by kernel_rfl) rfl (by kernel_rfl) (by kernel_rfl) (fun K hK => ?_)
          go_simp
          skip
          first | (refine hK.out _ _ ?_ (fun hHeld => ?_)) | (go_wp2_with fail; refine hK.out _ _ ?_ (fun hHeld => ?_))
          · (try dsimp only); exact ⟨ep2, ep6⟩
          clear hK K
          try simp only [Act.put, List.setIfInBounds_toArray, List.set_cons_zero, List.set_cons_succ]
          refine rg_next (i := 20) (l := #[true, true, true, true, true, true, true, true, true, true, true, true, true, true, true, true, true, true, true, true, true, false, false, false]) (fuel := 3) (by kernel_rfl) rfl (by kernel_rfl) (by kernel_rfl) (fun K hK => ?_)
          go_simp
          (go_at_call 79)
          refine (rread_v bu0 bu1 (by decide) (by decide) SB.out.1 SB.out.2 MV.out).mono ?_
          rintro e w4 ⟨rfl, b4⟩
          have H4 := Lib.hid (H3.out.keep b4)
          have K4 : Hid (Kp (J.all r) w w4) := Lib.hid (K3.out.trans (Kp.of_below (L := []) b4) (by simp))
          clear b4 ez ep2 ep6
          have ez := H4.out.cells.1
          have ep2 := H4.out.cells.2.2.1
          have ep6 := H4.out.cells.2.2.2.2.2.2.1
          have xf := H4.out.pg.frozen 0
          first | (refine hK.out _ _ ?_ (fun hHeld => ?_)) | (go_wp2_with fail; refine hK.out _ _ ?_ (fun hHeld => ?_))
          · (try dsimp only); exact ⟨ep2, ep6⟩
          clear hK K
          try simp only [Act.put, List.setIfInBounds_toArray, List.set_cons_zero, List.set_cons_succ]
          refine rg_take (i := 21) (d := some 109) (l := #[true, true, true, true, true, true, true, true, true, true, true, true, true, true, true, true, true, true, true, true, true, true, false, false]) (fuel := 2) (v := ?_) rfl (by kernel_rfl) (by kernel_rfl) (by kernel_rfl) (by kernel_rfl) (by kernel_rfl) (fun _ _ _ h => h) (by kernel_rfl) ?_ (by assumption) ?_
          rotate_left 1
          · (intro wS hSw; (try dsimp only at hSw); go_simp; try with_reducible rfl)
          try simp only [Act.put, List.setIfInBounds_toArray, List.set_cons_zero, List.set_cons_succ]
          refine rg_take (i := 22) (d := some 110) (l := #[true, true, true, true, true, true, true, true, true, true, true, true, true, true, true, true, true, true, true, true, true, true, true, false]) (fuel := 1) (v := ?_) rfl (by kernel_rfl) (by kernel_rfl) (by kernel_rfl) (by kernel_rfl) (by kernel_rfl) (fun _ _ _ h => h) (by kernel_rfl) ?_ (by assumption) ?_
          rotate_left 1
          · (intro wS hSw; (try dsimp only at hSw); go_simp; try with_reducible rfl)
          try simp only [Act.put, List.setIfInBounds_toArray, List.set_cons_zero, List.set_cons_succ]
          obtain ⟨r1, r2⟩ := H4.out.vbuf y
          have H5 := Lib.hid r1
          have K5 := Lib.hid (K4.out.trans (r2.mono (M := J.all r) (by simp [Rr.all])) (fun z hz => .inl hz))
          have wp := H5.out.cells.2.2.1
          have wc := H5.out.cells.2.2.2.2.2.2.1
          clear r1 r2
          refine rg_next (i := 23) (l := #[true, true, true, true, true, true, true, true, true, true, true, true, true, true, true, true, true, true, true, true, true, true, true, true]) (fuel := 0) (by kernel_rfl) rfl (by kernel_rfl) (by kernel_rfl) (fun K hK => ?_)
          go_simp
          skip
          first | (refine hK.out _ _ ?_ (fun hHeld => ?_)) | (go_wp2_with fail; refine hK.out _ _ ?_ (fun hHeld => ?_))
          · (try dsimp only); exact ⟨wp, wc⟩
          clear hK K
          try simp only [Act.put, List.setIfInBounds_toArray, List.set_cons_zero, List.set_cons_succ]
          refine wpAnyH_done (by kernel_rfl) ?_ _
          have x5 := H5.out.cells.1
          clear hHeld ep2 ep6 ez xf wp wc
          generalize World.setCell _ _ _ = w5 at *
          go_wp2_with fail
          go_ret
          exact ⟨rfl, H5.out, K5.out⟩
        exact AllReadyH.nil
      exact AllReadyH.nil
    exact AllReadyH.nil
set_option maxHeartbeats 4000000 in
theorem rhread80 (h : RHp w r d J Z x) (hok : x.ok d) (hR : Rws w d Z) (hn : d.np ≤ 140737488355328 ∧ d.nv ≤ 140737488355328 ∧ d.nc ≤ 140737488355328) (hl : x.lim 1000000) (hpb : 0 ≤ peekI (d.np - x.tp) (fun i => d.zp (x.tp + i)) 0 ∧ peekI (d.np - x.tp) (fun i => d.zp (x.tp + i)) 0 ≤ 255) (hG : Good d.n d.es) (off : Int) (o0 : 0 ≤ off) (o1 : off ≤ 65535) (hk : whereI (plA off) = 8) (h2 : regI (plA off) ≠ 2) (h3 : regI (plA off) ≠ 3) :
    Calls Tryz.prog 43 #[.pointer (some ⟨r, 0, none⟩), .int .u16 off] w (RhR (.int .u8 x.buf) r d J Z x (J.all r) w) := by
    obtain ⟨a0, a1⟩ := plA_bd off o0
    have bu0 := hok.2.2.1.1
    have bu1 := hok.2.2.1.2
    have tc0 := hok.1.2.1
    have k7 := hok.2.2.2.1
    have hs := hok.2.1
    have hn1 := hG.1
    have H := Lib.hid h
    have HK := Lib.hid hk
    have HL := Lib.hid hl
    have HR := Lib.hid hR
    have HPB := Lib.hid hpb
    clear h hk hl hR hok hpb hG
    obtain ⟨rg, hrg⟩ : ∃ g, regI (plA off) = g := ⟨_, rfl⟩
    rw [hrg] at h2 h3
    have m2 : (rg == 2) = false := by simpa using h2
    have m3 : (rg == 3) = false := by simpa using h3
    have HREG := Lib.hid hrg
    clear hrg h2 h3
    go_enter Tryz.func43, Tryz.ntmps43
    go_wp2_with fail
    refine (rat_v o0 o1 rfl).mono ?_
    rintro e w' ⟨rfl, rfl⟩
    go_wp2_with fail
    refine (rwhere_v a0 a1 HK.out).mono ?_
    rintro e w1 ⟨rfl, b1⟩
    have H1 := Lib.hid (H.out.keep b1)
    have R1 := Lib.hid (HR.out.keep b1)
    have K1 : Hid (Kp (J.all r) w w1) := Lib.hid (Kp.of_below b1)
    obtain ⟨e0, e1, e2, e3, e4, e5, e6, e7⟩ := H1.out.cells
    clear b1 H HR
    go_wp2_with fail
    refine (rreg_v a0 a1 HREG.out).mono ?_
    rintro e w2 ⟨rfl, b2⟩
    have H2 := Lib.hid (H1.out.keep b2)
    have R2 := Lib.hid (R1.out.keep b2)
    have K2 : Hid (Kp (J.all r) w w2) := Lib.hid (K1.out.trans (Kp.of_below (L := []) b2) (by simp))
    clear b2 H1 R1 K1
    have H1 := H2
    have R1 := R2
    have K1 := K2
    clear H2 R2 K2
    clear e0 e1 e2 e3 e4 e5 e6 e7
    obtain ⟨e0, e1, e2, e3, e4, e5, e6, e7⟩ := H1.out.cells
    go_wp2_with fail
    refine (rreg_v a0 a1 HREG.out).mono ?_
    rintro e w2 ⟨rfl, b2⟩
    have H2 := Lib.hid (H1.out.keep b2)
    have R2 := Lib.hid (R1.out.keep b2)
    have K2 : Hid (Kp (J.all r) w w2) := Lib.hid (K1.out.trans (Kp.of_below (L := []) b2) (by simp))
    clear b2 H1 R1 K1
    have H1 := H2
    have R1 := R2
    have K1 := K2
    clear H2 R2 K2
    clear e0 e1 e2 e3 e4 e5 e6 e7
    obtain ⟨e0, e1, e2, e3, e4, e5, e6, e7⟩ := H1.out.cells
    go_wp2_with fail
    go_ret
    exact ⟨rfl, H1.out, K1.out⟩
set_option maxHeartbeats 4000000 in
theorem rhread0 (h : RHp w r d J Z x) (off k : Int) (o0 : 0 ≤ off) (o1 : off ≤ 65535) (hR : Rws w d Z) (hk : whereI (plA off) = k) (hn : k < 3 ∨ 8 < k) :
    Calls Tryz.prog 43 #[.pointer (some ⟨r, 0, none⟩), .int .u16 off] w (RhR (.int .u8 255) r d J Z x (J.all r) w) := by
    obtain ⟨a0, a1⟩ := plA_bd off o0
    have n3 : (k == 3) = false := by simp; omega
    have n4 : (k == 4) = false := by simp; omega
    have n5 : (k == 5) = false := by simp; omega
    have n6 : (k == 6) = false := by simp; omega
    have n7 : (k == 7) = false := by simp; omega
    have n8 : (k == 8) = false := by simp; omega
    have H := Lib.hid h
    have HK := Lib.hid hk
    have HR := Lib.hid hR
    clear h hk hn hR
    go_enter Tryz.func43, Tryz.ntmps43
    go_wp2_with fail
    refine (rat_v o0 o1 rfl).mono ?_
    rintro e w' ⟨rfl, rfl⟩
    go_wp2_with fail
    refine (rwhere_v a0 a1 HK.out).mono ?_
    rintro e w1 ⟨rfl, b1⟩
    have H1 := Lib.hid (H.out.keep b1)
    have R1 := Lib.hid (HR.out.keep b1)
    have K1 : Hid (Kp (J.all r) w w1) := Lib.hid (Kp.of_below b1)
    obtain ⟨e0, e1, e2, e3, e4, e5, e6, e7⟩ := H1.out.cells
    clear b1 H HR
    go_wp2_with fail
    go_ret
    exact ⟨rfl, H1.out, K1.out⟩
theorem rhread_any (h : RHp w r d J Z x) (hok : x.ok d) (hR : Rws w d Z) (hn : d.np ≤ 140737488355328 ∧ d.nv ≤ 140737488355328 ∧ d.nc ≤ 140737488355328) (hl : x.lim 1000000) (hpb : 0 ≤ peekI (d.np - x.tp) (fun i => d.zp (x.tp + i)) 0 ∧ peekI (d.np - x.tp) (fun i => d.zp (x.tp + i)) 0 ≤ 255) (hG : Good d.n d.es) (off : Int) (o0 : 0 ≤ off) (o1 : off ≤ 65535) :
    Calls Tryz.prog 43 #[.pointer (some ⟨r, 0, none⟩), .int .u16 off] w (RhR (.int .u8 (x.rv d (whereI (plA off)) (regI (plA off)))) r d J Z (x.rd d (whereI (plA off)) (regI (plA off))) (J.all r) w) := by
  obtain ⟨k, hk⟩ : ∃ k, whereI (plA off) = k := ⟨_, rfl⟩
  by_cases h3 : k = 3
  · subst h3; rw [hk]; exact rhread3 h hok hR hn hl hpb hG off o0 o1 hk
  by_cases h4 : k = 4
  · subst h4; rw [hk]; exact rhread4 h hok hR hn hl hpb hG off o0 o1 hk
  by_cases h5 : k = 5
  · subst h5; rw [hk]; exact rhread5 h hok hR hn hl hpb hG off o0 o1 hk
  by_cases h6 : k = 6
  · subst h6; rw [hk]; exact rhread6 h hok hR hn hl hpb hG off o0 o1 hk
  by_cases h7 : k = 7
  · subst h7; rw [hk]; exact rhread7 h hok hR hn hl hpb hG off o0 o1 hk
  by_cases h8 : k = 8
  · subst h8
    rw [hk]
    have e1 : ∀ g, x.rv d 8 g = x.ri d g := fun g => rfl
    have e2 : ∀ g, x.rd d 8 g = { x with buf := x.ri d g } := fun g => rfl
    rw [e1, e2]
    by_cases g2 : regI (plA off) = 2
    · rw [g2]; exact rhread82 h hok hR hn hl hpb hG off o0 o1 hk g2
    by_cases g3 : regI (plA off) = 3
    · rw [g3]; exact rhread83 h hok hR hn hl hpb hG off o0 o1 hk g3
    have e3 : x.ri d (regI (plA off)) = x.buf := by unfold Hp.ri; rw [if_neg g2, if_neg g3]
    rw [e3]
    exact rhread80 h hok hR hn hl hpb hG off o0 o1 hk g2 g3
  have e1 : x.rv d k (regI (plA off)) = 255 := by unfold Hp.rv; rw [if_neg h3, if_neg h4, if_neg h5, if_neg h6, if_neg h7, if_neg h8]
  have e2 : x.rd d k (regI (plA off)) = x := by unfold Hp.rd; rw [if_neg h3, if_neg h4, if_neg (by omega), if_neg h7]
  rw [hk, e1, e2]
  exact rhread0 h off k o0 o1 hR hk (by omega)
end
end Go.Proofs.YtngfmofjonleeaaGreat
namespace Go.Proofs.YtngfmofjonleeaaGreat
open Go.RowKit
set_option linter.unusedVariables false
set_option linter.unusedSimpArgs false
set_option maxRecDepth 100000
def RhNewR (d : Hd) (Z : Rz) (w : World) (e : Ending) (w' : World) : Prop :=
  ∃ r J, e = .returned (.tuple #[.pointer (some ⟨r, 0, none⟩), .agg #[.int .i64 0, .int .i64 0]]) ∧ (∀ y ∈ J.all r, w.heap.size ≤ y) ∧ RHp w' r d J Z Hp.new ∧ Below w.heap.size w w'
section
variable {w : World} {A1 A2 A3 A : Option Addr} {n1 c1 n2 c2 n3 c3 n c : Nat} {z1 z2 z3 : Nat → Int} {es : Nat → Iib}
set_option maxHeartbeats 16000000 in
theorem rhnew_yes (R : ERow w A n es) (hl : ¬ (10000 < n1 ∨ 10000 < n2 ∨ 10000 < n3)) (hc : n ≤ 9223372036854775807) (hk : (chk es n).1 = 0) :
    Calls Tryz.prog 6 #[.agg #[.slice A1 n1 c1, .slice A2 n2 c2, .slice A3 n3 c3], .slice A n c] w (RhNewR ⟨n, es, n1, z1, n2, z2, n3, z3⟩ ⟨A1, c1, A2, c2, A3, c3, A, c⟩ w) := by
  have hb1 : Below w.heap.size w ((w.alloc (.cells #[.slice A1 n1 c1, .slice A2 n2 c2, .slice A3 n3 c3] 36)).alloc (.cells #[.int .i64 0, .int .i64 0] 31)) := ((Below.refl _ _).alloc (Nat.le_refl _) _).alloc (by simp) _
  have F0 := Lib.hid ((Blk.new w 36 #[.slice A1 n1 c1, .slice A2 n2 c2, .slice A3 n3 c3]).alloc (.cells #[.int .i64 0, .int .i64 0] 31))
  have G0 := Lib.hid (Blk.new (w.alloc (.cells #[.slice A1 n1 c1, .slice A2 n2 c2, .slice A3 n3 c3] 36)) 31 #[.int .i64 0, .int .i64 0])
  rw [World.size_alloc] at G0
  have HB := Lib.hid hb1
  clear hb1
  have j1 : ¬ (10000 : Int) < n1 := by omega
  have j2 : ¬ (10000 : Int) < n2 := by omega
  have j3 : ¬ (10000 : Int) < n3 := by omega
  have HRE := Lib.hid R
  have HC := Lib.hid hc
  obtain ⟨⟨a, b⟩, hab⟩ : ∃ r, chk es n = r := ⟨_, rfl⟩
  have HAB := Lib.hid hab
  rw [hab] at hk
  clear R hl hab
  go_enter Tryz.func6, Tryz.ntmps6
  go_upto_region 1 with fail
  have e0 := F0.out.cell 0
  have e1 := F0.out.cell 1
  have e2 := F0.out.cell 2
  generalize World.alloc _ _ = w1 at *
  replace e0 : w1.cell? ⟨w.heap.size, 0, none⟩ = some (.slice A1 n1 c1) := e0
  replace e1 : w1.cell? ⟨w.heap.size, 1, none⟩ = some (.slice A2 n2 c2) := e1
  replace e2 : w1.cell? ⟨w.heap.size, 2, none⟩ = some (.slice A3 n3 c3) := e2
  go_wp2_with fail
  clear e0 e1 e2
  refine (rcheck_any (FRow.keep HRE.out HB.out) HC.out).mono ?_
  rw [HAB.out]
  rintro e w3 ⟨rfl, b3⟩
  have s1 : w.heap.size + 1 < w1.heap.size := G0.out.lt
  have HB3 := Lib.hid (HB.out.trans (b3.mono (by omega)))
  have G3 := Lib.hid (G0.out.below b3 G0.out.lt)
  have F3 := Lib.hid (F0.out.below b3 (by omega))
  have s3 : w.heap.size + 1 < w3.heap.size := G3.out.lt
  clear b3 HB G0 F0 s1
  try unfold fltV
  try dsimp only
  obtain rfl : a = 0 := hk
  have hne : ((0 : Int) != 0) = false := rfl
  go_upto_region 4 with fail
  have HB4 := Lib.hid (HB3.out.alloc (by omega) (.cells #[.int .i64 0, .int .i64 b] 31))
  have G4 := Lib.hid (G3.out.alloc (.cells #[.int .i64 0, .int .i64 b] 31))
  have F4 := Lib.hid (F3.out.alloc (.cells #[.int .i64 0, .int .i64 b] 31))
  have n4 := Blk.new w3 31 #[.int .i64 0, .int .i64 b]
  have c30 : (w3.alloc (.cells #[.int .i64 0, .int .i64 b] 31)).cell? ⟨w3.heap.size, 0, none⟩ = some (.int .i64 0) := n4.cell 0
  have c31 : (w3.alloc (.cells #[.int .i64 0, .int .i64 b] 31)).cell? ⟨w3.heap.size, 1, none⟩ = some (.int .i64 b) := n4.cell 1
  clear n4 HB3 G3 F3
  generalize World.alloc _ _ = w4 at *
  generalize w3.heap.size = g3 at *
  go_upto_region 6 with fail
  clear c30 c31 HAB
  generalize hB : w.heap.size = B at *
  have HBB := Lib.hid hB
  have hw0 : B < w4.heap.size := F4.out.lt
  replace F4 := Lib.hid (F4.out.drew_)
  replace G4 := Lib.hid (G4.out.drew_)
  have BW : Hid (Below B w w4.drew) := Lib.hid HB4.out.drew
  have hz : B ≤ w4.drew.heap.size := Nat.le_of_lt hw0
  have e2 : w4.cell? ⟨B, 2, none⟩ = some (.slice A3 n3 c3) := F4.out.cell 2
  clear HB4 hw0 hB
  refine rg_begin (S := fun w' => w'.cell? ⟨B, 2, none⟩ = some (.slice A3 n3 c3)) 9 #[false, false, false, false, false, false, false, false, false] (by kernel_rfl) (by kernel_rfl) (by kernel_rfl) ?_ (fun hHeld => ?_)
  · exact e2
  generalize w4.drew = v0 at *
  clear e2
  refine rg_take (i := 1) (d := some 32) (l := #[false, true, false, false, false, false, false, false, false]) (fuel := 8) (v := ?_) rfl (by kernel_rfl) (by kernel_rfl) (by kernel_rfl) (by kernel_rfl) (by kernel_rfl) (fun _ _ _ h => h) (by kernel_rfl) ?_ (by assumption) ?_
  rotate_left 1
  · (intro wS hSw; (try dsimp only at hSw); go_simp; try with_reducible rfl)
  try simp only [Act.put, List.setIfInBounds_toArray, List.set_cons_zero, List.set_cons_succ]
  refine rg_take (i := 3) (d := some 34) (l := #[false, true, false, true, false, false, false, false, false]) (fuel := 7) (v := ?_) rfl (by kernel_rfl) (by kernel_rfl) (by kernel_rfl) (by kernel_rfl) (by kernel_rfl) (fun _ _ _ h => h) (by kernel_rfl) ?_ (by assumption) ?_
  rotate_left 1
  · (intro wS hSw; (try dsimp only at hSw); go_simp; try with_reducible rfl)
  try simp only [Act.put, List.setIfInBounds_toArray, List.set_cons_zero, List.set_cons_succ]
  refine rg_take (i := 4) (d := some 35) (l := #[false, true, false, true, true, false, false, false, false]) (fuel := 6) (v := ?_) rfl (by kernel_rfl) (by kernel_rfl) (by kernel_rfl) (by kernel_rfl) (by kernel_rfl) (fun _ _ _ h => h) (by kernel_rfl) ?_ (by assumption) ?_
  rotate_left 1
  · (intro wS hSw; (try dsimp only at hSw); go_simp; try with_reducible rfl)
  try simp only [Act.put, List.setIfInBounds_toArray, List.set_cons_zero, List.set_cons_succ]
  refine rg_of (rs := [0, 2]) (fuel := 5) (by kernel_rfl) rfl ?_
  refine rg_step (i := 0) (l := #[true, true, false, true, true, false, false, false, false]) rfl (by kernel_rfl) (by kernel_rfl) ?_ ?_
  · intro K hK
    go_simp
    (go_at_call 27)
    refine (rtnew_any _).mono ?_
    rintro e v1 ⟨rfl, y1, b1⟩
    obtain ⟨gt, hg⟩ : ∃ g, v0.heap.size = g := ⟨_, rfl⟩
    have Nt : Hid (RTM v1 gt Tm.new) := Lib.hid (hg ▸ y1)
    simp only [hg]
    have zt : B ≤ gt := by omega
    have BW' := Lib.hid (BW.out.trans (b1.mono hz))
    replace F4 := Lib.hid (F4.out.below b1 F4.out.lt)
    replace G4 := Lib.hid (G4.out.below b1 G4.out.lt)
    have hz' : B ≤ v1.heap.size := Nat.le_trans hz b1.size
    clear BW hz
    have BW := BW'
    have hz := hz'
    clear BW' hz'
    clear y1 b1 hg
    have e2 : _ = some (Value.slice A3 n3 c3) := F4.out.cell 2
    first | (refine hK.out _ _ ?_ (fun hHeld => ?_)) | (go_wp2_with fail; refine hK.out _ _ ?_ (fun hHeld => ?_))
    · (try dsimp only); exact e2
    clear hK K
    try simp only [Act.put, List.setIfInBounds_toArray, List.set_cons_zero, List.set_cons_succ]
    clear e2
    refine rg_of (rs := [2, 5]) (fuel := 4) (by kernel_rfl) rfl ?_
    refine rg_step (i := 2) (l := #[true, true, true, true, true, false, false, false, false]) rfl (by kernel_rfl) (by kernel_rfl) ?_ ?_
    · intro K hK
      go_simp
      have b1 : Below v1.heap.size v1 (v1.alloc (.cells #[.int .u8 0, .bool false] 98)) := (Below.refl _ _).alloc (Nat.le_refl _) _
      have Nq : Hid (RQ (v1.alloc (.cells #[.int .u8 0, .bool false] 98)) v1.heap.size ⟨0, false⟩) := Lib.hid ⟨Blk.new v1 _ _, by decide⟩
      have zq : B ≤ v1.heap.size := hz
      replace Nt := Lib.hid (And.intro (Nt.out.1.below b1 Nt.out.1.lt) Nt.out.2)
      have BW' := Lib.hid (BW.out.trans (b1.mono hz))
      replace F4 := Lib.hid (F4.out.below b1 F4.out.lt)
      replace G4 := Lib.hid (G4.out.below b1 G4.out.lt)
      have hz' : B ≤ (v1.alloc (.cells #[.int .u8 0, .bool false] 98)).heap.size := Nat.le_trans hz b1.size
      clear BW hz
      have BW := BW'
      have hz := hz'
      clear BW' hz'
      clear b1
      have e2 : _ = some (Value.slice A3 n3 c3) := F4.out.cell 2
      first | (refine hK.out _ _ ?_ (fun hHeld => ?_)) | (go_wp2_with fail; refine hK.out _ _ ?_ (fun hHeld => ?_))
      · (try dsimp only); exact e2
      clear hK K
      try simp only [Act.put, List.setIfInBounds_toArray, List.set_cons_zero, List.set_cons_succ]
      generalize hgq : v1.heap.size = gq at *
      generalize World.alloc v1 _ = v2 at *
      clear hgq
      clear e2
      refine rg_next (i := 5) (l := #[true, true, true, true, true, true, false, false, false]) (fuel := 3) (by kernel_rfl) rfl (by kernel_rfl) (by kernel_rfl) (fun K hK => ?_)
      go_simp
      (go_at_call 28)
      refine (rpnew_any A3 n3 c3 _).mono ?_
      rintro e v3 ⟨rfl, y1, b1⟩
      obtain ⟨gp, hg⟩ : ∃ g, v2.heap.size = g := ⟨_, rfl⟩
      have Np : Hid (RP v3 gp A3 n3 c3 0 ⟨0, 0⟩) := Lib.hid (hg ▸ y1)
      simp only [hg]
      have zp : B ≤ gp := by omega
      replace Nt := Lib.hid (And.intro (Nt.out.1.below b1 Nt.out.1.lt) Nt.out.2)
      replace Nq := Lib.hid (And.intro (Nq.out.1.below b1 Nq.out.1.lt) Nq.out.2)
      have BW' := Lib.hid (BW.out.trans (b1.mono hz))
      replace F4 := Lib.hid (F4.out.below b1 F4.out.lt)
      replace G4 := Lib.hid (G4.out.below b1 G4.out.lt)
      have hz' : B ≤ v3.heap.size := Nat.le_trans hz b1.size
      clear BW hz
      have BW := BW'
      have hz := hz'
      clear BW' hz'
      clear y1 b1 hg
      have e2 : _ = some (Value.slice A3 n3 c3) := F4.out.cell 2
      first | (refine hK.out _ _ ?_ (fun hHeld => ?_)) | (go_wp2_with fail; refine hK.out _ _ ?_ (fun hHeld => ?_))
      · (try dsimp only); exact e2
      clear hK K
      try simp only [Act.put, List.setIfInBounds_toArray, List.set_cons_zero, List.set_cons_succ]
      clear e2
      refine rg_take (i := 6) (d := some 37) (l := #[true, true, true, true, true, true, true, false, false]) (fuel := 2) (v := ?_) rfl (by kernel_rfl) (by kernel_rfl) (by kernel_rfl) (by kernel_rfl) (by kernel_rfl) (fun _ _ _ h => h) (by kernel_rfl) ?_ (by assumption) ?_
      rotate_left 1
      · (intro wS hSw; (try dsimp only at hSw); go_simp; try with_reducible rfl)
      try simp only [Act.put, List.setIfInBounds_toArray, List.set_cons_zero, List.set_cons_succ]
      refine rg_next (i := 7) (l := #[true, true, true, true, true, true, true, true, false]) (fuel := 1) (by kernel_rfl) rfl (by kernel_rfl) (by kernel_rfl) (fun K hK => ?_)
      go_simp
      have b1 : Below v3.heap.size v3 (v3.alloc (.cells #[.int .u8 0, .pointer (some ⟨gt, 0, none⟩), .pointer (some ⟨gq, 0, none⟩), .pointer (some ⟨gp, 0, none⟩), .pointer none, .pointer none, .pointer none, .int .i64 0] 104)) := (Below.refl _ _).alloc (Nat.le_refl _) _
      have NP : Hid (Blk (v3.alloc (.cells #[.int .u8 0, .pointer (some ⟨gt, 0, none⟩), .pointer (some ⟨gq, 0, none⟩), .pointer (some ⟨gp, 0, none⟩), .pointer none, .pointer none, .pointer none, .int .i64 0] 104)) v3.heap.size 104 #[.int .u8 0, .pointer (some ⟨gt, 0, none⟩), .pointer (some ⟨gq, 0, none⟩), .pointer (some ⟨gp, 0, none⟩), .pointer none, .pointer none, .pointer none, .int .i64 0]) := Lib.hid (Blk.new v3 _ _)
      have zr : B ≤ v3.heap.size := hz
      replace Nt := Lib.hid (And.intro (Nt.out.1.below b1 Nt.out.1.lt) Nt.out.2)
      replace Nq := Lib.hid (And.intro (Nq.out.1.below b1 Nq.out.1.lt) Nq.out.2)
      replace Np := Lib.hid (And.intro (Np.out.1.below b1 Np.out.1.lt) Np.out.2)
      have BW' := Lib.hid (BW.out.trans (b1.mono hz))
      replace F4 := Lib.hid (F4.out.below b1 F4.out.lt)
      replace G4 := Lib.hid (G4.out.below b1 G4.out.lt)
      have hz' : B ≤ (v3.alloc (.cells #[.int .u8 0, .pointer (some ⟨gt, 0, none⟩), .pointer (some ⟨gq, 0, none⟩), .pointer (some ⟨gp, 0, none⟩), .pointer none, .pointer none, .pointer none, .int .i64 0] 104)).heap.size := Nat.le_trans hz b1.size
      clear BW hz
      have BW := BW'
      have hz := hz'
      clear BW' hz'
      clear b1
      have e2 : _ = some (Value.slice A3 n3 c3) := F4.out.cell 2
      first | (refine hK.out _ _ ?_ (fun hHeld => ?_)) | (go_wp2_with fail; refine hK.out _ _ ?_ (fun hHeld => ?_))
      · (try dsimp only); exact e2
      clear hK K
      try simp only [Act.put, List.setIfInBounds_toArray, List.set_cons_zero, List.set_cons_succ]
      refine rg_take (i := 8) (d := some 7) (l := #[true, true, true, true, true, true, true, true, true]) (fuel := 0) (v := ?_) rfl (by kernel_rfl) (by kernel_rfl) (by kernel_rfl) (by kernel_rfl) (by kernel_rfl) (fun _ _ _ h => h) (by kernel_rfl) ?_ (by assumption) ?_
      rotate_left 1
      · (intro wS hSw; (try dsimp only at hSw); go_simp; try with_reducible rfl)
      try simp only [Act.put, List.setIfInBounds_toArray, List.set_cons_zero, List.set_cons_succ]
      refine wpAnyH_done (by kernel_rfl) ?_ _
      clear hHeld e2
      generalize hgr : v3.heap.size = gr at *
      generalize World.alloc v3 _ = w6 at *
      clear hgr
      have q1 := NP.out.alloc (.cells #[.slice A1 n1 c1, .int .i64 0] 106)
      have p4 : (w6.alloc (.cells #[.slice A1 n1 c1, .int .i64 0] 106)).cell? ⟨gr, 4, none⟩ = some (.pointer none) := q1.cell 4
      have f4 := q1.frozen 4
      have y0 : w6.cell? ⟨B, 0, none⟩ = some (.slice A1 n1 c1) := F4.out.cell 0
      go_upto_region 8 with fail
      obtain ⟨gv, hg⟩ : ∃ g, w6.heap.size = g := ⟨_, rfl⟩
      have zv : B ≤ gv := by rw [← hg]; exact hz
      have hr : gr < w6.heap.size := NP.out.lt
      have k0 : Kp [gr] w6 ((w6.alloc (.cells #[.slice A1 n1 c1, .int .i64 0] 106)).setCell ⟨gr, 4, none⟩ (.pointer (some ⟨w6.heap.size, 0, none⟩))) := ((Kp.refl _ _).alloc _).setCell (.inl (by simp)) _
      have nF : B ≠ gr := F4.out.ne_ NP.out (by decide)
      have nG : B + 1 ≠ gr := G4.out.ne_ NP.out (by decide)
      have nt : gt ≠ gr := Nt.out.1.ne_ NP.out (by decide)
      have nq : gq ≠ gr := Nq.out.1.ne_ NP.out (by decide)
      have np : gp ≠ gr := Np.out.1.ne_ NP.out (by decide)
      replace BW := Lib.hid (k0.onto BW.out hz (by simpa using zr))
      replace hz := Nat.le_trans hz k0.size
      replace Nt := Lib.hid (RTM.kp Nt.out k0 (by simpa using nt))
      replace Nq := Lib.hid (RQ.kp Nq.out k0 (by simpa using nq))
      replace Np := Lib.hid (RP.kp Np.out k0 (by simpa using np))
      replace F4 := Lib.hid (F4.out.kp k0 (by simpa using nF))
      replace G4 := Lib.hid (G4.out.kp k0 (by simpa using nG))
      have Nv := Lib.hid (((Blk.new w6 106 #[.slice A1 n1 c1, .int .i64 0])).far (p := ⟨gr, 4, none⟩) (by show w6.heap.size ≠ gr; omega) (.pointer (some ⟨w6.heap.size, 0, none⟩)))
      have q2 := q1.set_ 4 (.pointer (some ⟨w6.heap.size, 0, none⟩))
      simp only [List.setIfInBounds_toArray, List.set_cons_zero, List.set_cons_succ] at q2
      replace NP := Lib.hid q2
      clear q1 p4 f4 k0 nF nG nt nq np  q2 hr y0
      rw [hg] at hz NP Nv BW Nt Nq Np F4 G4
      try simp only [hg]
      clear hg
      generalize World.setCell _ _ _ = w7 at *
      have q1 := NP.out.alloc (.cells #[.slice A2 n2 c2, .int .i64 0] 106)
      have p4 : (w7.alloc (.cells #[.slice A2 n2 c2, .int .i64 0] 106)).cell? ⟨gr, 5, none⟩ = some (.pointer none) := q1.cell 5
      have f4 := q1.frozen 5
      have y0 : w7.cell? ⟨B, 1, none⟩ = some (.slice A2 n2 c2) := F4.out.cell 1
      go_upto_region 9 with fail
      obtain ⟨gc, hg⟩ : ∃ g, w7.heap.size = g := ⟨_, rfl⟩
      have zc : B ≤ gc := by rw [← hg]; exact hz
      have hr : gr < w7.heap.size := NP.out.lt
      have k0 : Kp [gr] w7 ((w7.alloc (.cells #[.slice A2 n2 c2, .int .i64 0] 106)).setCell ⟨gr, 5, none⟩ (.pointer (some ⟨w7.heap.size, 0, none⟩))) := ((Kp.refl _ _).alloc _).setCell (.inl (by simp)) _
      have nF : B ≠ gr := F4.out.ne_ NP.out (by decide)
      have nG : B + 1 ≠ gr := G4.out.ne_ NP.out (by decide)
      have nt : gt ≠ gr := Nt.out.1.ne_ NP.out (by decide)
      have nq : gq ≠ gr := Nq.out.1.ne_ NP.out (by decide)
      have np : gp ≠ gr := Np.out.1.ne_ NP.out (by decide)
      have nv : gv ≠ gr := Nv.out.ne_ NP.out (by decide)
      replace BW := Lib.hid (k0.onto BW.out hz (by simpa using zr))
      replace hz := Nat.le_trans hz k0.size
      replace Nt := Lib.hid (RTM.kp Nt.out k0 (by simpa using nt))
      replace Nq := Lib.hid (RQ.kp Nq.out k0 (by simpa using nq))
      replace Np := Lib.hid (RP.kp Np.out k0 (by simpa using np))
      have lv : gv < w7.heap.size := Nv.out.lt
      replace Nv := Lib.hid (Nv.out.kp k0 (by simpa using nv))
      replace F4 := Lib.hid (F4.out.kp k0 (by simpa using nF))
      replace G4 := Lib.hid (G4.out.kp k0 (by simpa using nG))
      have Nc := Lib.hid (((Blk.new w7 106 #[.slice A2 n2 c2, .int .i64 0])).far (p := ⟨gr, 5, none⟩) (by show w7.heap.size ≠ gr; omega) (.pointer (some ⟨w7.heap.size, 0, none⟩)))
      have q2 := q1.set_ 5 (.pointer (some ⟨w7.heap.size, 0, none⟩))
      simp only [List.setIfInBounds_toArray, List.set_cons_zero, List.set_cons_succ] at q2
      replace NP := Lib.hid q2
      have hvc : gv ≠ gc := by rw [← hg]; omega
      clear q1 p4 f4 k0 nF nG nt nq np nv lv q2 hr y0
      rw [hg] at hz NP Nc BW Nt Nq Np F4 G4 Nv
      try simp only [hg]
      clear hg
      generalize World.setCell _ _ _ = w8 at *
      have q1 := NP.out.alloc (.cells #[.slice A n c, .int .i64 0, .bool false] 108)
      have p4 : (w8.alloc (.cells #[.slice A n c, .int .i64 0, .bool false] 108)).cell? ⟨gr, 6, none⟩ = some (.pointer none) := q1.cell 6
      have f4 := q1.frozen 6
      go_upto_region 10 with fail
      obtain ⟨gl, hg⟩ : ∃ g, w8.heap.size = g := ⟨_, rfl⟩
      have zl : B ≤ gl := by rw [← hg]; exact hz
      have hr : gr < w8.heap.size := NP.out.lt
      have k0 : Kp [gr] w8 ((w8.alloc (.cells #[.slice A n c, .int .i64 0, .bool false] 108)).setCell ⟨gr, 6, none⟩ (.pointer (some ⟨w8.heap.size, 0, none⟩))) := ((Kp.refl _ _).alloc _).setCell (.inl (by simp)) _
      have nF : B ≠ gr := F4.out.ne_ NP.out (by decide)
      have nG : B + 1 ≠ gr := G4.out.ne_ NP.out (by decide)
      have nt : gt ≠ gr := Nt.out.1.ne_ NP.out (by decide)
      have nq : gq ≠ gr := Nq.out.1.ne_ NP.out (by decide)
      have np : gp ≠ gr := Np.out.1.ne_ NP.out (by decide)
      have nv : gv ≠ gr := Nv.out.ne_ NP.out (by decide)
      have nc : gc ≠ gr := Nc.out.ne_ NP.out (by decide)
      replace BW := Lib.hid (k0.onto BW.out hz (by simpa using zr))
      replace hz := Nat.le_trans hz k0.size
      replace Nt := Lib.hid (RTM.kp Nt.out k0 (by simpa using nt))
      replace Nq := Lib.hid (RQ.kp Nq.out k0 (by simpa using nq))
      replace Np := Lib.hid (RP.kp Np.out k0 (by simpa using np))
      have lv : gv < w8.heap.size := Nv.out.lt
      replace Nv := Lib.hid (Nv.out.kp k0 (by simpa using nv))
      have lc : gc < w8.heap.size := Nc.out.lt
      replace Nc := Lib.hid (Nc.out.kp k0 (by simpa using nc))
      replace F4 := Lib.hid (F4.out.kp k0 (by simpa using nF))
      replace G4 := Lib.hid (G4.out.kp k0 (by simpa using nG))
      have Nl := Lib.hid (((Blk.new w8 108 #[.slice A n c, .int .i64 0, .bool false])).far (p := ⟨gr, 6, none⟩) (by show w8.heap.size ≠ gr; omega) (.pointer (some ⟨w8.heap.size, 0, none⟩)))
      have q2 := q1.set_ 6 (.pointer (some ⟨w8.heap.size, 0, none⟩))
      simp only [List.setIfInBounds_toArray, List.set_cons_zero, List.set_cons_succ] at q2
      replace NP := Lib.hid q2
      clear q1 p4 f4 k0 nF nG nt nq np nv lv nc lc q2 hr
      rw [hg] at hz NP Nl BW Nt Nq Np F4 G4 Nv Nc
      try simp only [hg]
      clear hg
      generalize World.setCell _ _ _ = w9 at *
      have d0 : w9.cell? ⟨B + 1, 0, none⟩ = some (.int .i64 0) := G4.out.cell 0
      have d1 : w9.cell? ⟨B + 1, 1, none⟩ = some (.int .i64 0) := G4.out.cell 1
      have f0 := G4.out.frozen 0
      have f1 := G4.out.frozen 1
      go_wp2_with fail
      have k0 : Kp [B + 1] w9 ((w9.setCell ⟨B + 1, 0, none⟩ (.int .i64 0)).setCell ⟨B + 1, 1, none⟩ (.int .i64 0)) := ((Kp.refl [B + 1] w9).setCell (.inl (by simp)) _).setCell (.inl (by simp)) _
      have NB := (G4.out.set_ 0 (.int .i64 0)).set_ 1 (.int .i64 0)
      simp only [List.setIfInBounds_toArray, List.set_cons_zero, List.set_cons_succ] at NB
      have nG : gr ≠ B + 1 := NP.out.ne_ G4.out (by decide)
      have nt : gt ≠ B + 1 := Nt.out.1.ne_ G4.out (by decide)
      have nq : gq ≠ B + 1 := Nq.out.1.ne_ G4.out (by decide)
      have np : gp ≠ B + 1 := Np.out.1.ne_ G4.out (by decide)
      have nv : gv ≠ B + 1 := Nv.out.ne_ G4.out (by decide)
      have nc : gc ≠ B + 1 := Nc.out.ne_ G4.out (by decide)
      have nl : gl ≠ B + 1 := Nl.out.ne_ G4.out (by decide)
      have R9 := Lib.hid (RHp.mk (d := ⟨n, es, n1, z1, n2, z2, n3, z3⟩) (K := ⟨gt, gq, gp, gv, gc, gl⟩) (Z := ⟨A1, c1, A2, c2, A3, c3, A, c⟩) (x := Hp.new) (NP.out.kp k0 (by simpa using nG)) (RTM.kp Nt.out k0 (by simpa using nt)) (RQ.kp Nq.out k0 (by simpa using nq)) (RP.kp Np.out k0 (by simpa using np)) (Nv.out.kp k0 (by simpa using nv)) (Nc.out.kp k0 (by simpa using nc)) (Nl.out.kp k0 (by simpa using nl)) hvc)
      have BX := Lib.hid (k0.onto BW.out hz (by simp))
      clear d0 d1 f0 f1 k0 nG nt nq np nv nc nl
      generalize World.setCell (World.setCell _ _ _) _ _ = wz at *
      have y0 : wz.cell? ⟨B + 1, 0, none⟩ = some (.int .i64 0) := NB.cell 0
      have y1 : wz.cell? ⟨B + 1, 1, none⟩ = some (.int .i64 0) := NB.cell 1
      clear NB
      refine bodyPost_ret (v := .tuple #[.pointer (some ⟨gr, 0, none⟩), .agg #[.int .i64 0, .int .i64 0]]) (by simp [results, Tryz.results6, go_sem, y0, y1]) rfl ?_
      exact ⟨gr, ⟨gt, gq, gp, gv, gc, gl⟩, rfl, (by rw [HBB.out]; simp [Rr.all]; omega), R9.out, by rw [HBB.out]; exact BX.out⟩
    refine rg_step (i := 5) (l := #[true, true, false, true, true, true, false, false, false]) rfl (by kernel_rfl) (by kernel_rfl) ?_ ?_
    · intro K hK
      go_simp
      (go_at_call 28)
      refine (rpnew_any A3 n3 c3 _).mono ?_
      rintro e v2 ⟨rfl, y1, b1⟩
      obtain ⟨gp, hg⟩ : ∃ g, v1.heap.size = g := ⟨_, rfl⟩
      have Np : Hid (RP v2 gp A3 n3 c3 0 ⟨0, 0⟩) := Lib.hid (hg ▸ y1)
      simp only [hg]
      have zp : B ≤ gp := by omega
      replace Nt := Lib.hid (And.intro (Nt.out.1.below b1 Nt.out.1.lt) Nt.out.2)
      have BW' := Lib.hid (BW.out.trans (b1.mono hz))
      replace F4 := Lib.hid (F4.out.below b1 F4.out.lt)
      replace G4 := Lib.hid (G4.out.below b1 G4.out.lt)
      have hz' : B ≤ v2.heap.size := Nat.le_trans hz b1.size
      clear BW hz
      have BW := BW'
      have hz := hz'
      clear BW' hz'
      clear y1 b1 hg
      have e2 : _ = some (Value.slice A3 n3 c3) := F4.out.cell 2
      first | (refine hK.out _ _ ?_ (fun hHeld => ?_)) | (go_wp2_with fail; refine hK.out _ _ ?_ (fun hHeld => ?_))
      · (try dsimp only); exact e2
      clear hK K
      try simp only [Act.put, List.setIfInBounds_toArray, List.set_cons_zero, List.set_cons_succ]
      clear e2
      refine rg_next (i := 2) (l := #[true, true, true, true, true, true, false, false, false]) (fuel := 3) (by kernel_rfl) rfl (by kernel_rfl) (by kernel_rfl) (fun K hK => ?_)
      go_simp
      have b1 : Below v2.heap.size v2 (v2.alloc (.cells #[.int .u8 0, .bool false] 98)) := (Below.refl _ _).alloc (Nat.le_refl _) _
      have Nq : Hid (RQ (v2.alloc (.cells #[.int .u8 0, .bool false] 98)) v2.heap.size ⟨0, false⟩) := Lib.hid ⟨Blk.new v2 _ _, by decide⟩
      have zq : B ≤ v2.heap.size := hz
      replace Nt := Lib.hid (And.intro (Nt.out.1.below b1 Nt.out.1.lt) Nt.out.2)
      replace Np := Lib.hid (And.intro (Np.out.1.below b1 Np.out.1.lt) Np.out.2)
      have BW' := Lib.hid (BW.out.trans (b1.mono hz))
      replace F4 := Lib.hid (F4.out.below b1 F4.out.lt)
      replace G4 := Lib.hid (G4.out.below b1 G4.out.lt)
      have hz' : B ≤ (v2.alloc (.cells #[.int .u8 0, .bool false] 98)).heap.size := Nat.le_trans hz b1.size
      clear BW hz
      have BW := BW'
      have hz := hz'
      clear BW' hz'
      clear b1
      have e2 : _ = some (Value.slice A3 n3 c3) := F4.out.cell 2
      first | (refine hK.out _ _ ?_ (fun hHeld => ?_)) | (go_wp2_with fail; refine hK.out _ _ ?_ (fun hHeld => ?_))
      · (try dsimp only); exact e2
      clear hK K
      try simp only [Act.put, List.setIfInBounds_toArray, List.set_cons_zero, List.set_cons_succ]
      generalize hgq : v2.heap.size = gq at *
      generalize World.alloc v2 _ = v3 at *
      clear hgq
      clear e2
      refine rg_take (i := 6) (d := some 37) (l := #[true, true, true, true, true, true, true, false, false]) (fuel := 2) (v := ?_) rfl (by kernel_rfl) (by kernel_rfl) (by kernel_rfl) (by kernel_rfl) (by kernel_rfl) (fun _ _ _ h => h) (by kernel_rfl) ?_ (by assumption) ?_
      rotate_left 1
      · (intro wS hSw; (try dsimp only at hSw); go_simp; try with_reducible rfl)
      try simp only [Act.put, List.setIfInBounds_toArray, List.set_cons_zero, List.set_cons_succ]
      refine rg_next (i := 7) (l := #[true, true, true, true, true, true, true, true, false]) (fuel := 1) (by kernel_rfl) rfl (by kernel_rfl) (by kernel_rfl) (fun K hK => ?_)
      go_simp
      have b1 : Below v3.heap.size v3 (v3.alloc (.cells #[.int .u8 0, .pointer (some ⟨gt, 0, none⟩), .pointer (some ⟨gq, 0, none⟩), .pointer (some ⟨gp, 0, none⟩), .pointer none, .pointer none, .pointer none, .int .i64 0] 104)) := (Below.refl _ _).alloc (Nat.le_refl _) _
      have NP : Hid (Blk (v3.alloc (.cells #[.int .u8 0, .pointer (some ⟨gt, 0, none⟩), .pointer (some ⟨gq, 0, none⟩), .pointer (some ⟨gp, 0, none⟩), .pointer none, .pointer none, .pointer none, .int .i64 0] 104)) v3.heap.size 104 #[.int .u8 0, .pointer (some ⟨gt, 0, none⟩), .pointer (some ⟨gq, 0, none⟩), .pointer (some ⟨gp, 0, none⟩), .pointer none, .pointer none, .pointer none, .int .i64 0]) := Lib.hid (Blk.new v3 _ _)
      have zr : B ≤ v3.heap.size := hz
      replace Nt := Lib.hid (And.intro (Nt.out.1.below b1 Nt.out.1.lt) Nt.out.2)
      replace Nq := Lib.hid (And.intro (Nq.out.1.below b1 Nq.out.1.lt) Nq.out.2)
      replace Np := Lib.hid (And.intro (Np.out.1.below b1 Np.out.1.lt) Np.out.2)
      have BW' := Lib.hid (BW.out.trans (b1.mono hz))
      replace F4 := Lib.hid (F4.out.below b1 F4.out.lt)
      replace G4 := Lib.hid (G4.out.below b1 G4.out.lt)
      have hz' : B ≤ (v3.alloc (.cells #[.int .u8 0, .pointer (some ⟨gt, 0, none⟩), .pointer (some ⟨gq, 0, none⟩), .pointer (some ⟨gp, 0, none⟩), .pointer none, .pointer none, .pointer none, .int .i64 0] 104)).heap.size := Nat.le_trans hz b1.size
      clear BW hz
      have BW := BW'
      have hz := hz'
      clear BW' hz'
      clear b1
      have e2 : _ = some (Value.slice A3 n3 c3) := F4.out.cell 2
      first | (refine hK.out _ _ ?_ (fun hHeld => ?_)) | (go_wp2_with fail; refine hK.out _ _ ?_ (fun hHeld => ?_))
      · (try dsimp only); exact e2
      clear hK K
      try simp only [Act.put, List.setIfInBounds_toArray, List.set_cons_zero, List.set_cons_succ]
      refine rg_take (i := 8) (d := some 7) (l := #[true, true, true, true, true, true, true, true, true]) (fuel := 0) (v := ?_) rfl (by kernel_rfl) (by kernel_rfl) (by kernel_rfl) (by kernel_rfl) (by kernel_rfl) (fun _ _ _ h => h) (by kernel_rfl) ?_ (by assumption) ?_
      rotate_left 1
      · (intro wS hSw; (try dsimp only at hSw); go_simp; try with_reducible rfl)
      try simp only [Act.put, List.setIfInBounds_toArray, List.set_cons_zero, List.set_cons_succ]
      refine wpAnyH_done (by kernel_rfl) ?_ _
      clear hHeld e2
      generalize hgr : v3.heap.size = gr at *
      generalize World.alloc v3 _ = w6 at *
      clear hgr
      have q1 := NP.out.alloc (.cells #[.slice A1 n1 c1, .int .i64 0] 106)
      have p4 : (w6.alloc (.cells #[.slice A1 n1 c1, .int .i64 0] 106)).cell? ⟨gr, 4, none⟩ = some (.pointer none) := q1.cell 4
      have f4 := q1.frozen 4
      have y0 : w6.cell? ⟨B, 0, none⟩ = some (.slice A1 n1 c1) := F4.out.cell 0
      go_upto_region 8 with fail
      obtain ⟨gv, hg⟩ : ∃ g, w6.heap.size = g := ⟨_, rfl⟩
      have zv : B ≤ gv := by rw [← hg]; exact hz
      have hr : gr < w6.heap.size := NP.out.lt
      have k0 : Kp [gr] w6 ((w6.alloc (.cells #[.slice A1 n1 c1, .int .i64 0] 106)).setCell ⟨gr, 4, none⟩ (.pointer (some ⟨w6.heap.size, 0, none⟩))) := ((Kp.refl _ _).alloc _).setCell (.inl (by simp)) _
      have nF : B ≠ gr := F4.out.ne_ NP.out (by decide)
      have nG : B + 1 ≠ gr := G4.out.ne_ NP.out (by decide)
      have nt : gt ≠ gr := Nt.out.1.ne_ NP.out (by decide)
      have nq : gq ≠ gr := Nq.out.1.ne_ NP.out (by decide)
      have np : gp ≠ gr := Np.out.1.ne_ NP.out (by decide)
      replace BW := Lib.hid (k0.onto BW.out hz (by simpa using zr))
      replace hz := Nat.le_trans hz k0.size
      replace Nt := Lib.hid (RTM.kp Nt.out k0 (by simpa using nt))
      replace Nq := Lib.hid (RQ.kp Nq.out k0 (by simpa using nq))
      replace Np := Lib.hid (RP.kp Np.out k0 (by simpa using np))
      replace F4 := Lib.hid (F4.out.kp k0 (by simpa using nF))
      replace G4 := Lib.hid (G4.out.kp k0 (by simpa using nG))
      have Nv := Lib.hid (((Blk.new w6 106 #[.slice A1 n1 c1, .int .i64 0])).far (p := ⟨gr, 4, none⟩) (by show w6.heap.size ≠ gr; omega) (.pointer (some ⟨w6.heap.size, 0, none⟩)))
      have q2 := q1.set_ 4 (.pointer (some ⟨w6.heap.size, 0, none⟩))
      simp only [List.setIfInBounds_toArray, List.set_cons_zero, List.set_cons_succ] at q2
      replace NP := Lib.hid q2
      clear q1 p4 f4 k0 nF nG nt nq np  q2 hr y0
      rw [hg] at hz NP Nv BW Nt Nq Np F4 G4
      try simp only [hg]
      clear hg
      generalize World.setCell _ _ _ = w7 at *
      have q1 := NP.out.alloc (.cells #[.slice A2 n2 c2, .int .i64 0] 106)
      have p4 : (w7.alloc (.cells #[.slice A2 n2 c2, .int .i64 0] 106)).cell? ⟨gr, 5, none⟩ = some (.pointer none) := q1.cell 5
      have f4 := q1.frozen 5
      have y0 : w7.cell? ⟨B, 1, none⟩ = some (.slice A2 n2 c2) := F4.out.cell 1
      go_upto_region 9 with fail
      obtain ⟨gc, hg⟩ : ∃ g, w7.heap.size = g := ⟨_, rfl⟩
      have zc : B ≤ gc := by rw [← hg]; exact hz
      have hr : gr < w7.heap.size := NP.out.lt
      have k0 : Kp [gr] w7 ((w7.alloc (.cells #[.slice A2 n2 c2, .int .i64 0] 106)).setCell ⟨gr, 5, none⟩ (.pointer (some ⟨w7.heap.size, 0, none⟩))) := ((Kp.refl _ _).alloc _).setCell (.inl (by simp)) _
      have nF : B ≠ gr := F4.out.ne_ NP.out (by decide)
      have nG : B + 1 ≠ gr := G4.out.ne_ NP.out (by decide)
      have nt : gt ≠ gr := Nt.out.1.ne_ NP.out (by decide)
      have nq : gq ≠ gr := Nq.out.1.ne_ NP.out (by decide)
      have np : gp ≠ gr := Np.out.1.ne_ NP.out (by decide)
      have nv : gv ≠ gr := Nv.out.ne_ NP.out (by decide)
      replace BW := Lib.hid (k0.onto BW.out hz (by simpa using zr))
      replace hz := Nat.le_trans hz k0.size
      replace Nt := Lib.hid (RTM.kp Nt.out k0 (by simpa using nt))
      replace Nq := Lib.hid (RQ.kp Nq.out k0 (by simpa using nq))
      replace Np := Lib.hid (RP.kp Np.out k0 (by simpa using np))
      have lv : gv < w7.heap.size := Nv.out.lt
      replace Nv := Lib.hid (Nv.out.kp k0 (by simpa using nv))
      replace F4 := Lib.hid (F4.out.kp k0 (by simpa using nF))
      replace G4 := Lib.hid (G4.out.kp k0 (by simpa using nG))
      have Nc := Lib.hid (((Blk.new w7 106 #[.slice A2 n2 c2, .int .i64 0])).far (p := ⟨gr, 5, none⟩) (by show w7.heap.size ≠ gr; omega) (.pointer (some ⟨w7.heap.size, 0, none⟩)))
      have q2 := q1.set_ 5 (.pointer (some ⟨w7.heap.size, 0, none⟩))
      simp only [List.setIfInBounds_toArray, List.set_cons_zero, List.set_cons_succ] at q2
      replace NP := Lib.hid q2
      have hvc : gv ≠ gc := by rw [← hg]; omega
      clear q1 p4 f4 k0 nF nG nt nq np nv lv q2 hr y0
      rw [hg] at hz NP Nc BW Nt Nq Np F4 G4 Nv
      try simp only [hg]
      clear hg
      generalize World.setCell _ _ _ = w8 at *
      have q1 := NP.out.alloc (.cells #[.slice A n c, .int .i64 0, .bool false] 108)
      have p4 : (w8.alloc (.cells #[.slice A n c, .int .i64 0, .bool false] 108)).cell? ⟨gr, 6, none⟩ = some (.pointer none) := q1.cell 6
      have f4 := q1.frozen 6
      go_upto_region 10 with fail
      obtain ⟨gl, hg⟩ : ∃ g, w8.heap.size = g := ⟨_, rfl⟩
      have zl : B ≤ gl := by rw [← hg]; exact hz
      have hr : gr < w8.heap.size := NP.out.lt
      have k0 : Kp [gr] w8 ((w8.alloc (.cells #[.slice A n c, .int .i64 0, .bool false] 108)).setCell ⟨gr, 6, none⟩ (.pointer (some ⟨w8.heap.size, 0, none⟩))) := ((Kp.refl _ _).alloc _).setCell (.inl (by simp)) _
      have nF : B ≠ gr := F4.out.ne_ NP.out (by decide)
      have nG : B + 1 ≠ gr := G4.out.ne_ NP.out (by decide)
      have nt : gt ≠ gr := Nt.out.1.ne_ NP.out (by decide)
      have nq : gq ≠ gr := Nq.out.1.ne_ NP.out (by decide)
      have np : gp ≠ gr := Np.out.1.ne_ NP.out (by decide)
      have nv : gv ≠ gr := Nv.out.ne_ NP.out (by decide)
      have nc : gc ≠ gr := Nc.out.ne_ NP.out (by decide)
      replace BW := Lib.hid (k0.onto BW.out hz (by simpa using zr))
      replace hz := Nat.le_trans hz k0.size
      replace Nt := Lib.hid (RTM.kp Nt.out k0 (by simpa using nt))
      replace Nq := Lib.hid (RQ.kp Nq.out k0 (by simpa using nq))
      replace Np := Lib.hid (RP.kp Np.out k0 (by simpa using np))
      have lv : gv < w8.heap.size := Nv.out.lt
      replace Nv := Lib.hid (Nv.out.kp k0 (by simpa using nv))
      have lc : gc < w8.heap.size := Nc.out.lt
      replace Nc := Lib.hid (Nc.out.kp k0 (by simpa using nc))
      replace F4 := Lib.hid (F4.out.kp k0 (by simpa using nF))
      replace G4 := Lib.hid (G4.out.kp k0 (by simpa using nG))
      have Nl := Lib.hid (((Blk.new w8 108 #[.slice A n c, .int .i64 0, .bool false])).far (p := ⟨gr, 6, none⟩) (by show w8.heap.size ≠ gr; omega) (.pointer (some ⟨w8.heap.size, 0, none⟩)))
      have q2 := q1.set_ 6 (.pointer (some ⟨w8.heap.size, 0, none⟩))
      simp only [List.setIfInBounds_toArray, List.set_cons_zero, List.set_cons_succ] at q2
      replace NP := Lib.hid q2
      clear q1 p4 f4 k0 nF nG nt nq np nv lv nc lc q2 hr
      rw [hg] at hz NP Nl BW Nt Nq Np F4 G4 Nv Nc
      try simp only [hg]
      clear hg
      generalize World.setCell _ _ _ = w9 at *
      have d0 : w9.cell? ⟨B + 1, 0, none⟩ = some (.int .i64 0) := G4.out.cell 0
      have d1 : w9.cell? ⟨B + 1, 1, none⟩ = some (.int .i64 0) := G4.out.cell 1
      have f0 := G4.out.frozen 0
      have f1 := G4.out.frozen 1
      go_wp2_with fail
      have k0 : Kp [B + 1] w9 ((w9.setCell ⟨B + 1, 0, none⟩ (.int .i64 0)).setCell ⟨B + 1, 1, none⟩ (.int .i64 0)) := ((Kp.refl [B + 1] w9).setCell (.inl (by simp)) _).setCell (.inl (by simp)) _
      have NB := (G4.out.set_ 0 (.int .i64 0)).set_ 1 (.int .i64 0)
      simp only [List.setIfInBounds_toArray, List.set_cons_zero, List.set_cons_succ] at NB
      have nG : gr ≠ B + 1 := NP.out.ne_ G4.out (by decide)
      have nt : gt ≠ B + 1 := Nt.out.1.ne_ G4.out (by decide)
      have nq : gq ≠ B + 1 := Nq.out.1.ne_ G4.out (by decide)
      have np : gp ≠ B + 1 := Np.out.1.ne_ G4.out (by decide)
      have nv : gv ≠ B + 1 := Nv.out.ne_ G4.out (by decide)
      have nc : gc ≠ B + 1 := Nc.out.ne_ G4.out (by decide)
      have nl : gl ≠ B + 1 := Nl.out.ne_ G4.out (by decide)
      have R9 := Lib.hid (RHp.mk (d := ⟨n, es, n1, z1, n2, z2, n3, z3⟩) (K := ⟨gt, gq, gp, gv, gc, gl⟩) (Z := ⟨A1, c1, A2, c2, A3, c3, A, c⟩) (x := Hp.new) (NP.out.kp k0 (by simpa using nG)) (RTM.kp Nt.out k0 (by simpa using nt)) (RQ.kp Nq.out k0 (by simpa using nq)) (RP.kp Np.out k0 (by simpa using np)) (Nv.out.kp k0 (by simpa using nv)) (Nc.out.kp k0 (by simpa using nc)) (Nl.out.kp k0 (by simpa using nl)) hvc)
      have BX := Lib.hid (k0.onto BW.out hz (by simp))
      clear d0 d1 f0 f1 k0 nG nt nq np nv nc nl
      generalize World.setCell (World.setCell _ _ _) _ _ = wz at *
      have y0 : wz.cell? ⟨B + 1, 0, none⟩ = some (.int .i64 0) := NB.cell 0
      have y1 : wz.cell? ⟨B + 1, 1, none⟩ = some (.int .i64 0) := NB.cell 1
      clear NB
      refine bodyPost_ret (v := .tuple #[.pointer (some ⟨gr, 0, none⟩), .agg #[.int .i64 0, .int .i64 0]]) (by simp [results, Tryz.results6, go_sem, y0, y1]) rfl ?_
      exact ⟨gr, ⟨gt, gq, gp, gv, gc, gl⟩, rfl, (by rw [HBB.out]; simp [Rr.all]; omega), R9.out, by rw [HBB.out]; exact BX.out⟩
    exact AllReadyH.nil
  refine rg_step (i := 2) (l := #[false, true, true, true, true, false, false, false, false]) rfl (by kernel_rfl) (by kernel_rfl) ?_ ?_
  · intro K hK
    go_simp
    have b1 : Below v0.heap.size v0 (v0.alloc (.cells #[.int .u8 0, .bool false] 98)) := (Below.refl _ _).alloc (Nat.le_refl _) _
    have Nq : Hid (RQ (v0.alloc (.cells #[.int .u8 0, .bool false] 98)) v0.heap.size ⟨0, false⟩) := Lib.hid ⟨Blk.new v0 _ _, by decide⟩
    have zq : B ≤ v0.heap.size := hz
    have BW' := Lib.hid (BW.out.trans (b1.mono hz))
    replace F4 := Lib.hid (F4.out.below b1 F4.out.lt)
    replace G4 := Lib.hid (G4.out.below b1 G4.out.lt)
    have hz' : B ≤ (v0.alloc (.cells #[.int .u8 0, .bool false] 98)).heap.size := Nat.le_trans hz b1.size
    clear BW hz
    have BW := BW'
    have hz := hz'
    clear BW' hz'
    clear b1
    have e2 : _ = some (Value.slice A3 n3 c3) := F4.out.cell 2
    first | (refine hK.out _ _ ?_ (fun hHeld => ?_)) | (go_wp2_with fail; refine hK.out _ _ ?_ (fun hHeld => ?_))
    · (try dsimp only); exact e2
    clear hK K
    try simp only [Act.put, List.setIfInBounds_toArray, List.set_cons_zero, List.set_cons_succ]
    generalize hgq : v0.heap.size = gq at *
    generalize World.alloc v0 _ = v1 at *
    clear hgq
    clear e2
    refine rg_next (i := 0) (l := #[true, true, true, true, true, false, false, false, false]) (fuel := 4) (by kernel_rfl) rfl (by kernel_rfl) (by kernel_rfl) (fun K hK => ?_)
    go_simp
    (go_at_call 27)
    refine (rtnew_any _).mono ?_
    rintro e v2 ⟨rfl, y1, b1⟩
    obtain ⟨gt, hg⟩ : ∃ g, v1.heap.size = g := ⟨_, rfl⟩
    have Nt : Hid (RTM v2 gt Tm.new) := Lib.hid (hg ▸ y1)
    simp only [hg]
    have zt : B ≤ gt := by omega
    replace Nq := Lib.hid (And.intro (Nq.out.1.below b1 Nq.out.1.lt) Nq.out.2)
    have BW' := Lib.hid (BW.out.trans (b1.mono hz))
    replace F4 := Lib.hid (F4.out.below b1 F4.out.lt)
    replace G4 := Lib.hid (G4.out.below b1 G4.out.lt)
    have hz' : B ≤ v2.heap.size := Nat.le_trans hz b1.size
    clear BW hz
    have BW := BW'
    have hz := hz'
    clear BW' hz'
    clear y1 b1 hg
    have e2 : _ = some (Value.slice A3 n3 c3) := F4.out.cell 2
    first | (refine hK.out _ _ ?_ (fun hHeld => ?_)) | (go_wp2_with fail; refine hK.out _ _ ?_ (fun hHeld => ?_))
    · (try dsimp only); exact e2
    clear hK K
    try simp only [Act.put, List.setIfInBounds_toArray, List.set_cons_zero, List.set_cons_succ]
    clear e2
    refine rg_next (i := 5) (l := #[true, true, true, true, true, true, false, false, false]) (fuel := 3) (by kernel_rfl) rfl (by kernel_rfl) (by kernel_rfl) (fun K hK => ?_)
    go_simp
    (go_at_call 28)
    refine (rpnew_any A3 n3 c3 _).mono ?_
    rintro e v3 ⟨rfl, y1, b1⟩
    obtain ⟨gp, hg⟩ : ∃ g, v2.heap.size = g := ⟨_, rfl⟩
    have Np : Hid (RP v3 gp A3 n3 c3 0 ⟨0, 0⟩) := Lib.hid (hg ▸ y1)
    simp only [hg]
    have zp : B ≤ gp := by omega
    replace Nq := Lib.hid (And.intro (Nq.out.1.below b1 Nq.out.1.lt) Nq.out.2)
    replace Nt := Lib.hid (And.intro (Nt.out.1.below b1 Nt.out.1.lt) Nt.out.2)
    have BW' := Lib.hid (BW.out.trans (b1.mono hz))
    replace F4 := Lib.hid (F4.out.below b1 F4.out.lt)
    replace G4 := Lib.hid (G4.out.below b1 G4.out.lt)
    have hz' : B ≤ v3.heap.size := Nat.le_trans hz b1.size
    clear BW hz
    have BW := BW'
    have hz := hz'
    clear BW' hz'
    clear y1 b1 hg
    have e2 : _ = some (Value.slice A3 n3 c3) := F4.out.cell 2
    first | (refine hK.out _ _ ?_ (fun hHeld => ?_)) | (go_wp2_with fail; refine hK.out _ _ ?_ (fun hHeld => ?_))
    · (try dsimp only); exact e2
    clear hK K
    try simp only [Act.put, List.setIfInBounds_toArray, List.set_cons_zero, List.set_cons_succ]
    clear e2
    refine rg_take (i := 6) (d := some 37) (l := #[true, true, true, true, true, true, true, false, false]) (fuel := 2) (v := ?_) rfl (by kernel_rfl) (by kernel_rfl) (by kernel_rfl) (by kernel_rfl) (by kernel_rfl) (fun _ _ _ h => h) (by kernel_rfl) ?_ (by assumption) ?_
    rotate_left 1
    · (intro wS hSw; (try dsimp only at hSw); go_simp; try with_reducible rfl)
    try simp only [Act.put, List.setIfInBounds_toArray, List.set_cons_zero, List.set_cons_succ]
    refine rg_next (i := 7) (l := #[true, true, true, true, true, true, true, true, false]) (fuel := 1) (by kernel_rfl) rfl (by kernel_rfl) (by kernel_rfl) (fun K hK => ?_)
    go_simp
    have b1 : Below v3.heap.size v3 (v3.alloc (.cells #[.int .u8 0, .pointer (some ⟨gt, 0, none⟩), .pointer (some ⟨gq, 0, none⟩), .pointer (some ⟨gp, 0, none⟩), .pointer none, .pointer none, .pointer none, .int .i64 0] 104)) := (Below.refl _ _).alloc (Nat.le_refl _) _
    have NP : Hid (Blk (v3.alloc (.cells #[.int .u8 0, .pointer (some ⟨gt, 0, none⟩), .pointer (some ⟨gq, 0, none⟩), .pointer (some ⟨gp, 0, none⟩), .pointer none, .pointer none, .pointer none, .int .i64 0] 104)) v3.heap.size 104 #[.int .u8 0, .pointer (some ⟨gt, 0, none⟩), .pointer (some ⟨gq, 0, none⟩), .pointer (some ⟨gp, 0, none⟩), .pointer none, .pointer none, .pointer none, .int .i64 0]) := Lib.hid (Blk.new v3 _ _)
    have zr : B ≤ v3.heap.size := hz
    replace Nt := Lib.hid (And.intro (Nt.out.1.below b1 Nt.out.1.lt) Nt.out.2)
    replace Nq := Lib.hid (And.intro (Nq.out.1.below b1 Nq.out.1.lt) Nq.out.2)
    replace Np := Lib.hid (And.intro (Np.out.1.below b1 Np.out.1.lt) Np.out.2)
    have BW' := Lib.hid (BW.out.trans (b1.mono hz))
    replace F4 := Lib.hid (F4.out.below b1 F4.out.lt)
    replace G4 := Lib.hid (G4.out.below b1 G4.out.lt)
    have hz' : B ≤ (v3.alloc (.cells #[.int .u8 0, .pointer (some ⟨gt, 0, none⟩), .pointer (some ⟨gq, 0, none⟩), .pointer (some ⟨gp, 0, none⟩), .pointer none, .pointer none, .pointer none, .int .i64 0] 104)).heap.size := Nat.le_trans hz b1.size
    clear BW hz
    have BW := BW'
    have hz := hz'
    clear BW' hz'
    clear b1
    have e2 : _ = some (Value.slice A3 n3 c3) := F4.out.cell 2
    first | (refine hK.out _ _ ?_ (fun hHeld => ?_)) | (go_wp2_with fail; refine hK.out _ _ ?_ (fun hHeld => ?_))
    · (try dsimp only); exact e2
    clear hK K
    try simp only [Act.put, List.setIfInBounds_toArray, List.set_cons_zero, List.set_cons_succ]
    refine rg_take (i := 8) (d := some 7) (l := #[true, true, true, true, true, true, true, true, true]) (fuel := 0) (v := ?_) rfl (by kernel_rfl) (by kernel_rfl) (by kernel_rfl) (by kernel_rfl) (by kernel_rfl) (fun _ _ _ h => h) (by kernel_rfl) ?_ (by assumption) ?_
    rotate_left 1
    · (intro wS hSw; (try dsimp only at hSw); go_simp; try with_reducible rfl)
    try simp only [Act.put, List.setIfInBounds_toArray, List.set_cons_zero, List.set_cons_succ]
    refine wpAnyH_done (by kernel_rfl) ?_ _
    clear hHeld e2
    generalize hgr : v3.heap.size = gr at *
    generalize World.alloc v3 _ = w6 at *
    clear hgr
    have q1 := NP.out.alloc (.cells #[.slice A1 n1 c1, .int .i64 0] 106)
    have p4 : (w6.alloc (.cells #[.slice A1 n1 c1, .int .i64 0] 106)).cell? ⟨gr, 4, none⟩ = some (.pointer none) := q1.cell 4
    have f4 := q1.frozen 4
    have y0 : w6.cell? ⟨B, 0, none⟩ = some (.slice A1 n1 c1) := F4.out.cell 0
    go_upto_region 8 with fail
    obtain ⟨gv, hg⟩ : ∃ g, w6.heap.size = g := ⟨_, rfl⟩
    have zv : B ≤ gv := by rw [← hg]; exact hz
    have hr : gr < w6.heap.size := NP.out.lt
    have k0 : Kp [gr] w6 ((w6.alloc (.cells #[.slice A1 n1 c1, .int .i64 0] 106)).setCell ⟨gr, 4, none⟩ (.pointer (some ⟨w6.heap.size, 0, none⟩))) := ((Kp.refl _ _).alloc _).setCell (.inl (by simp)) _
    have nF : B ≠ gr := F4.out.ne_ NP.out (by decide)
    have nG : B + 1 ≠ gr := G4.out.ne_ NP.out (by decide)
    have nt : gt ≠ gr := Nt.out.1.ne_ NP.out (by decide)
    have nq : gq ≠ gr := Nq.out.1.ne_ NP.out (by decide)
    have np : gp ≠ gr := Np.out.1.ne_ NP.out (by decide)
    replace BW := Lib.hid (k0.onto BW.out hz (by simpa using zr))
    replace hz := Nat.le_trans hz k0.size
    replace Nt := Lib.hid (RTM.kp Nt.out k0 (by simpa using nt))
    replace Nq := Lib.hid (RQ.kp Nq.out k0 (by simpa using nq))
    replace Np := Lib.hid (RP.kp Np.out k0 (by simpa using np))
    replace F4 := Lib.hid (F4.out.kp k0 (by simpa using nF))
    replace G4 := Lib.hid (G4.out.kp k0 (by simpa using nG))
    have Nv := Lib.hid (((Blk.new w6 106 #[.slice A1 n1 c1, .int .i64 0])).far (p := ⟨gr, 4, none⟩) (by show w6.heap.size ≠ gr; omega) (.pointer (some ⟨w6.heap.size, 0, none⟩)))
    have q2 := q1.set_ 4 (.pointer (some ⟨w6.heap.size, 0, none⟩))
    simp only [List.setIfInBounds_toArray, List.set_cons_zero, List.set_cons_succ] at q2
    replace NP := Lib.hid q2
    clear q1 p4 f4 k0 nF nG nt nq np  q2 hr y0
    rw [hg] at hz NP Nv BW Nt Nq Np F4 G4
    try simp only [hg]
    clear hg
    generalize World.setCell _ _ _ = w7 at *
    have q1 := NP.out.alloc (.cells #[.slice A2 n2 c2, .int .i64 0] 106)
    have p4 : (w7.alloc (.cells #[.slice A2 n2 c2, .int .i64 0] 106)).cell? ⟨gr, 5, none⟩ = some (.pointer none) := q1.cell 5
    have f4 := q1.frozen 5
    have y0 : w7.cell? ⟨B, 1, none⟩ = some (.slice A2 n2 c2) := F4.out.cell 1
    go_upto_region 9 with fail
    obtain ⟨gc, hg⟩ : ∃ g, w7.heap.size = g := ⟨_, rfl⟩
    have zc : B ≤ gc := by rw [← hg]; exact hz
    have hr : gr < w7.heap.size := NP.out.lt
    have k0 : Kp [gr] w7 ((w7.alloc (.cells #[.slice A2 n2 c2, .int .i64 0] 106)).setCell ⟨gr, 5, none⟩ (.pointer (some ⟨w7.heap.size, 0, none⟩))) := ((Kp.refl _ _).alloc _).setCell (.inl (by simp)) _
    have nF : B ≠ gr := F4.out.ne_ NP.out (by decide)
    have nG : B + 1 ≠ gr := G4.out.ne_ NP.out (by decide)
    have nt : gt ≠ gr := Nt.out.1.ne_ NP.out (by decide)
    have nq : gq ≠ gr := Nq.out.1.ne_ NP.out (by decide)
    have np : gp ≠ gr := Np.out.1.ne_ NP.out (by decide)
    have nv : gv ≠ gr := Nv.out.ne_ NP.out (by decide)
    replace BW := Lib.hid (k0.onto BW.out hz (by simpa using zr))
    replace hz := Nat.le_trans hz k0.size
    replace Nt := Lib.hid (RTM.kp Nt.out k0 (by simpa using nt))
    replace Nq := Lib.hid (RQ.kp Nq.out k0 (by simpa using nq))
    replace Np := Lib.hid (RP.kp Np.out k0 (by simpa using np))
    have lv : gv < w7.heap.size := Nv.out.lt
    replace Nv := Lib.hid (Nv.out.kp k0 (by simpa using nv))
    replace F4 := Lib.hid (F4.out.kp k0 (by simpa using nF))
    replace G4 := Lib.hid (G4.out.kp k0 (by simpa using nG))
    have Nc := Lib.hid (((Blk.new w7 106 #[.slice A2 n2 c2, .int .i64 0])).far (p := ⟨gr, 5, none⟩) (by show w7.heap.size ≠ gr; omega) (.pointer (some ⟨w7.heap.size, 0, none⟩)))
    have q2 := q1.set_ 5 (.pointer (some ⟨w7.heap.size, 0, none⟩))
    simp only [List.setIfInBounds_toArray, List.set_cons_zero, List.set_cons_succ] at q2
    replace NP := Lib.hid q2
    have hvc : gv ≠ gc := by rw [← hg]; omega
    clear q1 p4 f4 k0 nF nG nt nq np nv lv q2 hr y0
    rw [hg] at hz NP Nc BW Nt Nq Np F4 G4 Nv
    try simp only [hg]
    clear hg
    generalize World.setCell _ _ _ = w8 at *
    have q1 := NP.out.alloc (.cells #[.slice A n c, .int .i64 0, .bool false] 108)
    have p4 : (w8.alloc (.cells #[.slice A n c, .int .i64 0, .bool false] 108)).cell? ⟨gr, 6, none⟩ = some (.pointer none) := q1.cell 6
    have f4 := q1.frozen 6
    go_upto_region 10 with fail
    obtain ⟨gl, hg⟩ : ∃ g, w8.heap.size = g := ⟨_, rfl⟩
    have zl : B ≤ gl := by rw [← hg]; exact hz
    have hr : gr < w8.heap.size := NP.out.lt
    have k0 : Kp [gr] w8 ((w8.alloc (.cells #[.slice A n c, .int .i64 0, .bool false] 108)).setCell ⟨gr, 6, none⟩ (.pointer (some ⟨w8.heap.size, 0, none⟩))) := ((Kp.refl _ _).alloc _).setCell (.inl (by simp)) _
    have nF : B ≠ gr := F4.out.ne_ NP.out (by decide)
    have nG : B + 1 ≠ gr := G4.out.ne_ NP.out (by decide)
    have nt : gt ≠ gr := Nt.out.1.ne_ NP.out (by decide)
    have nq : gq ≠ gr := Nq.out.1.ne_ NP.out (by decide)
    have np : gp ≠ gr := Np.out.1.ne_ NP.out (by decide)
    have nv : gv ≠ gr := Nv.out.ne_ NP.out (by decide)
    have nc : gc ≠ gr := Nc.out.ne_ NP.out (by decide)
    replace BW := Lib.hid (k0.onto BW.out hz (by simpa using zr))
    replace hz := Nat.le_trans hz k0.size
    replace Nt := Lib.hid (RTM.kp Nt.out k0 (by simpa using nt))
    replace Nq := Lib.hid (RQ.kp Nq.out k0 (by simpa using nq))
    replace Np := Lib.hid (RP.kp Np.out k0 (by simpa using np))
    have lv : gv < w8.heap.size := Nv.out.lt
    replace Nv := Lib.hid (Nv.out.kp k0 (by simpa using nv))
    have lc : gc < w8.heap.size := Nc.out.lt
    replace Nc := Lib.hid (Nc.out.kp k0 (by simpa using nc))
    replace F4 := Lib.hid (F4.out.kp k0 (by simpa using nF))
    replace G4 := Lib.hid (G4.out.kp k0 (by simpa using nG))
    have Nl := Lib.hid (((Blk.new w8 108 #[.slice A n c, .int .i64 0, .bool false])).far (p := ⟨gr, 6, none⟩) (by show w8.heap.size ≠ gr; omega) (.pointer (some ⟨w8.heap.size, 0, none⟩)))
    have q2 := q1.set_ 6 (.pointer (some ⟨w8.heap.size, 0, none⟩))
    simp only [List.setIfInBounds_toArray, List.set_cons_zero, List.set_cons_succ] at q2
    replace NP := Lib.hid q2
    clear q1 p4 f4 k0 nF nG nt nq np nv lv nc lc q2 hr
    rw [hg] at hz NP Nl BW Nt Nq Np F4 G4 Nv Nc
    try simp only [hg]
    clear hg
    generalize World.setCell _ _ _ = w9 at *
    have d0 : w9.cell? ⟨B + 1, 0, none⟩ = some (.int .i64 0) := G4.out.cell 0
    have d1 : w9.cell? ⟨B + 1, 1, none⟩ = some (.int .i64 0) := G4.out.cell 1
    have f0 := G4.out.frozen 0
    have f1 := G4.out.frozen 1
    go_wp2_with fail
    have k0 : Kp [B + 1] w9 ((w9.setCell ⟨B + 1, 0, none⟩ (.int .i64 0)).setCell ⟨B + 1, 1, none⟩ (.int .i64 0)) := ((Kp.refl [B + 1] w9).setCell (.inl (by simp)) _).setCell (.inl (by simp)) _
    have NB := (G4.out.set_ 0 (.int .i64 0)).set_ 1 (.int .i64 0)
    simp only [List.setIfInBounds_toArray, List.set_cons_zero, List.set_cons_succ] at NB
    have nG : gr ≠ B + 1 := NP.out.ne_ G4.out (by decide)
    have nt : gt ≠ B + 1 := Nt.out.1.ne_ G4.out (by decide)
    have nq : gq ≠ B + 1 := Nq.out.1.ne_ G4.out (by decide)
    have np : gp ≠ B + 1 := Np.out.1.ne_ G4.out (by decide)
    have nv : gv ≠ B + 1 := Nv.out.ne_ G4.out (by decide)
    have nc : gc ≠ B + 1 := Nc.out.ne_ G4.out (by decide)
    have nl : gl ≠ B + 1 := Nl.out.ne_ G4.out (by decide)
    have R9 := Lib.hid (RHp.mk (d := ⟨n, es, n1, z1, n2, z2, n3, z3⟩) (K := ⟨gt, gq, gp, gv, gc, gl⟩) (Z := ⟨A1, c1, A2, c2, A3, c3, A, c⟩) (x := Hp.new) (NP.out.kp k0 (by simpa using nG)) (RTM.kp Nt.out k0 (by simpa using nt)) (RQ.kp Nq.out k0 (by simpa using nq)) (RP.kp Np.out k0 (by simpa using np)) (Nv.out.kp k0 (by simpa using nv)) (Nc.out.kp k0 (by simpa using nc)) (Nl.out.kp k0 (by simpa using nl)) hvc)
    have BX := Lib.hid (k0.onto BW.out hz (by simp))
    clear d0 d1 f0 f1 k0 nG nt nq np nv nc nl
    generalize World.setCell (World.setCell _ _ _) _ _ = wz at *
    have y0 : wz.cell? ⟨B + 1, 0, none⟩ = some (.int .i64 0) := NB.cell 0
    have y1 : wz.cell? ⟨B + 1, 1, none⟩ = some (.int .i64 0) := NB.cell 1
    clear NB
    refine bodyPost_ret (v := .tuple #[.pointer (some ⟨gr, 0, none⟩), .agg #[.int .i64 0, .int .i64 0]]) (by simp [results, Tryz.results6, go_sem, y0, y1]) rfl ?_
    exact ⟨gr, ⟨gt, gq, gp, gv, gc, gl⟩, rfl, (by rw [HBB.out]; simp [Rr.all]; omega), R9.out, by rw [HBB.out]; exact BX.out⟩
  exact AllReadyH.nil
end
end Go.Proofs.YtngfmofjonleeaaGreat
namespace Go.Proofs.YtngfmofjonleeaaGreat
open Go.RowKit
set_option linter.unusedVariables false
set_option linter.unusedSimpArgs false
set_option maxRecDepth 100000
/-- What else a law of this seat may have boxed beside them. -/
abbrev stepT : TypeId := 46
/-- A page and the reference's, alike, made since W. -/
structure HX (W w : World) (g : Nat) (d : Hd) (b : Hb) (r : Nat) (J : Rr) (Z : Rz) (x : Hp) : Prop where
  hp : HP w g d b x
  rh : RHp w r d J Z x
  bw : Below W.heap.size W w
  lo : (∀ y ∈ [g, b.v, b.c, b.p], W.heap.size ≤ y) ∧ ∀ y ∈ J.all r, W.heap.size ≤ y
/-- What they were made of stood in W. -/
structure HC (W : World) (d : Hd) (Z : Rz) : Prop where
  rw : Rws W d Z
  sm : d.np ≤ 10000 ∧ d.nv ≤ 10000 ∧ d.nc ≤ 10000
def hxL (g : Nat) (b : Hb) (r : Nat) (J : Rr) : List Nat := [g, b.v, b.c, b.p] ++ J.all r
section
variable {W w w1 w2 w' : World} {g : Nat} {d : Hd} {b : Hb} {r : Nat} {J : Rr} {Z : Rz} {x y : Hp} {L : List Nat}
theorem RHp.notin (h : RHp w r d J Z x) {u : Nat} {T : TypeId} {cs : Array Value} (hb : Blk w u T cs) (hT : T = 92 ∨ T = 34 ∨ T = stepT) : u ∉ J.all r := by
  intro hy
  simp only [Rr.all, List.mem_cons, List.not_mem_nil, or_false] at hy
  rcases hT with rfl | rfl | rfl
  all_goals
    rcases hy with rfl | rfl | rfl | rfl | rfl | rfl | rfl
    · exact hb.ne_ h.pg (by decide) rfl
    · exact hb.ne_ h.tm.1 (by decide) rfl
    · exact hb.ne_ h.q.1 (by decide) rfl
    · exact hb.ne_ h.pt.1 (by decide) rfl
    · exact hb.ne_ h.v (by decide) rfl
    · exact hb.ne_ h.c (by decide) rfl
    · exact hb.ne_ h.l (by decide) rfl
theorem RHp.typed (h : RHp w r d J Z x) : ∀ y ∈ J.all r, ∃ t cs, Blk w y t cs ∧ 5 ≠ t ∧ 150 ≠ t := by
  intro y hy
  simp only [Rr.all, List.mem_cons, List.not_mem_nil, or_false] at hy
  rcases hy with rfl | rfl | rfl | rfl | rfl | rfl | rfl
  · exact ⟨_, _, h.pg, by decide, by decide⟩
  · exact ⟨_, _, h.tm.1, by decide, by decide⟩
  · exact ⟨_, _, h.q.1, by decide, by decide⟩
  · exact ⟨_, _, h.pt.1, by decide, by decide⟩
  · exact ⟨_, _, h.v, by decide, by decide⟩
  · exact ⟨_, _, h.c, by decide, by decide⟩
  · exact ⟨_, _, h.l, by decide, by decide⟩
theorem HP.boxes (h : HP w g d b x) : ∀ y ∈ [g, b.v, b.c, b.p], ∃ T cs, Blk w y T cs ∧ (T = 92 ∨ T = 34 ∨ T = stepT) := by
  obtain ⟨A, c, hb, ho⟩ := h
  intro y hy
  simp only [List.mem_cons, List.not_mem_nil, or_false] at hy
  rcases hy with rfl | rfl | rfl | rfl
  · exact ⟨_, _, hb, .inl rfl⟩
  · obtain ⟨v, h1, _⟩ := ho.v; exact ⟨_, _, h1, .inr (.inl rfl)⟩
  · obtain ⟨v, h1, _⟩ := ho.c; exact ⟨_, _, h1, .inr (.inl rfl)⟩
  · obtain ⟨v, h1, _⟩ := ho.p; exact ⟨_, _, h1, .inr (.inl rfl)⟩
theorem HX.apart (h : HX W w g d b r J Z x) : ∀ y ∈ [g, b.v, b.c, b.p], y ∉ J.all r := fun y hy => by
  obtain ⟨T, cs, hb, hT⟩ := h.hp.boxes y hy
  exact h.rh.notin hb hT
/-- The reference's page behind a call on the page. -/
theorem HX.ref1 (h : HX W w g d b r J Z x) (hL : ∀ z ∈ L, z ∈ [g, b.v, b.c, b.p]) (k : Kp L w w1) : RHp w1 r d J Z x := by
  have hn : ∀ u ∈ J.all r, u ∉ L := fun u hu hl => h.apart u (hL u hl) hu
  exact h.rh.kp k ⟨hn _ (by simp [Rr.all]), hn _ (by simp [Rr.all]), hn _ (by simp [Rr.all]), hn _ (by simp [Rr.all]), hn _ (by simp [Rr.all]), hn _ (by simp [Rr.all]), hn _ (by simp [Rr.all])⟩
theorem HX.bw1 (h : HX W w g d b r J Z x) (hL : ∀ z ∈ L, z ∈ [g, b.v, b.c, b.p]) (k : Kp L w w1) : Below W.heap.size W w1 := k.onto h.bw h.bw.size (fun z hz => h.lo.1 z (hL z hz))
theorem HX.two (h : HX W w g d b r J Z x) (h1 : HP w1 g d b y) (hL : ∀ z ∈ L, z ∈ [g, b.v, b.c, b.p]) (k1 : Kp L w w1) (h2 : RHp w2 r d J Z y) (k2 : Kp (J.all r) w1 w2) : HX W w2 g d b r J Z y ∧ Kp (hxL g b r J) w w2 := by
  have r1 := h.ref1 hL k1
  have hb := h.bw1 hL k1
  refine ⟨⟨h1.kp k2 r1.typed ⟨h.apart _ (by simp), h.apart _ (by simp), h.apart _ (by simp), h.apart _ (by simp)⟩, h2, k2.onto hb hb.size h.lo.2, h.lo⟩, ?_⟩
  exact (k1.mono (M := hxL g b r J) (fun z hz => List.mem_append_left _ (hL z hz))).trans (k2.mono (M := hxL g b r J) (fun z hz => List.mem_append_right _ hz)) (fun z hz => .inl hz)
theorem HX.on (h : HX W w g d b r J Z x) (k : Below w.heap.size w w') : HX W w' g d b r J Z x := ⟨h.hp.keep k, h.rh.keep k, h.bw.trans (k.mono h.bw.size), h.lo⟩
theorem HX.kp0 (h : HX W w g d b r J Z x) (k : Kp [] w w') : HX W w' g d b r J Z x := ⟨h.hp.kp0 k, h.rh.kp0 k, k.onto h.bw h.bw.size (by simp), h.lo⟩
theorem HC.at_ (C : HC W d Z) (hb : Below W.heap.size W w) : Rws w d Z := C.rw.keep hb
theorem HC.pb (C : HC W d Z) (x : Hp) : 0 ≤ peekI (d.np - x.tp) (fun i => d.zp (x.tp + i)) 0 ∧ peekI (d.np - x.tp) (fun i => d.zp (x.tp + i)) 0 ≤ 255 := by
  unfold peekI
  split
  · rename_i hh
    have hi : x.tp + (0 : Int).toNat < d.np := by simp at hh ⊢; omega
    obtain ⟨_, _, _, _, hw⟩ := C.rw.p _ hi
    exact bounds_u8 hw
  · omega
theorem HC.off (C : HC W d Z) (h : HX W w g d b r J Z x) : EOff Z d.n J := fun ad e hn => by
  obtain ⟨ad2, e2, hl, _⟩ := C.rw.e 0 hn
  rw [e] at e2
  cases e2
  have := h.lo.2 J.l (by simp [Rr.all])
  simp; omega
end
/-- How far both went, and how many bytes were taken. -/
def Hp.far (x : Hp) (c : Nat) : Prop := x.lim c ∧ x.now ≤ 1000000 * (c : Int)
section
variable {x : Hp} {d : Hd} {c : Nat}
end
end Go.Proofs.YtngfmofjonleeaaGreat
namespace Go.Proofs.YtngfmofjonleeaaGreat
open Go.RowKit
set_option linter.unusedVariables false
set_option linter.unusedSimpArgs false
set_option maxRecDepth 100000
section
variable {w : World} {r : Nat} {d : Hd} {J : Rr} {Z : Rz} {x : Hp}
end
end Go.Proofs.YtngfmofjonleeaaGreat
