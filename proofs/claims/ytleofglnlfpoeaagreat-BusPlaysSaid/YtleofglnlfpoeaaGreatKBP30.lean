/-
  Texts of these proofs, one behind the other: Rh1, Rh2, Rh3.
-/
import Derived.Test.YtleofglnlfpoeaaGreatKBP23
import Derived.Test.YtleofglnlfpoeaaGreatKBP28
import Derived.Test.YtleofglnlfpoeaaGreatKBP29
import Derived.Test.YtleofglnlfpoeaaGreatKBP07
import Derived.Test.YtleofglnlfpoeaaGreatKBP21
namespace Go.Proofs.YtleofglnlfpoeaaGreat
open Go.RowKit
set_option linter.unusedVariables false
set_option linter.unusedSimpArgs false
set_option maxRecDepth 100000
/-- Where its devices lie. -/
structure Rr where
  t : Nat
  q : Nat
  p : Nat
  v : Nat
  c : Nat
  l : Nat
/-- The slices that it was made of. -/
structure Rz where
  A1 : Option Addr
  c1 : Nat
  A2 : Option Addr
  c2 : Nat
  A3 : Option Addr
  c3 : Nat
  A : Option Addr
  c : Nat
def rhC (K : Rr) (x : Hp) : Array Value := #[.int .u8 x.buf, .pointer (some ⟨K.t, 0, none⟩), .pointer (some ⟨K.q, 0, none⟩), .pointer (some ⟨K.p, 0, none⟩), .pointer (some ⟨K.v, 0, none⟩), .pointer (some ⟨K.c, 0, none⟩), .pointer (some ⟨K.l, 0, none⟩), .int .i64 x.now]
def rfC (A : Option Addr) (n c t : Nat) : Array Value := #[.slice A n c, .int .i64 t]
structure RHp (w : World) (r : Nat) (d : Hd) (K : Rr) (Z : Rz) (x : Hp) : Prop where
  pg : Blk w r 111 (rhC K x)
  tm : RTM w K.t x.tm
  q : RQ w K.q x.q
  pt : RP w K.p Z.A3 d.np Z.c3 x.tp x.pt
  v : Blk w K.v 113 (rfC Z.A1 d.nv Z.c1 x.tv)
  c : Blk w K.c 113 (rfC Z.A2 d.nc Z.c2 x.tc)
  l : Blk w K.l 115 (rlC Z.A d.n Z.c x.s x.ro)
  ne : K.v ≠ K.c
section
variable {w w' : World} {r : Nat} {d : Hd} {K : Rr} {Z : Rz} {x : Hp} {L : List Nat}
theorem RHp.kp (h : RHp w r d K Z x) (k : Kp L w w') (hL : r ∉ L ∧ K.t ∉ L ∧ K.q ∉ L ∧ K.p ∉ L ∧ K.v ∉ L ∧ K.c ∉ L ∧ K.l ∉ L) : RHp w' r d K Z x := by
  obtain ⟨n0, n1, n2, n3, n4, n5, n6⟩ := hL
  exact ⟨h.pg.kp k n0, ⟨h.tm.1.kp k n1, h.tm.2⟩, h.q.kp k n2, h.pt.kp k n3, h.v.kp k n4, h.c.kp k n5, h.l.kp k n6, h.ne⟩
theorem RHp.keep (h : RHp w r d K Z x) (k : Below w.heap.size w w') : RHp w' r d K Z x := h.kp (L := []) (Kp.of_below k) (by simp)
theorem RHp.kp0 (h : RHp w r d K Z x) (k : Kp [] w w') : RHp w' r d K Z x := h.kp k (by simp)
/-- All of them are blocks of their own. -/
theorem RHp.nes (h : RHp w r d K Z x) : (r ≠ K.t ∧ r ≠ K.q ∧ r ≠ K.p ∧ r ≠ K.v ∧ r ≠ K.c ∧ r ≠ K.l) ∧ (K.t ≠ K.q ∧ K.t ≠ K.p ∧ K.t ≠ K.v ∧ K.t ≠ K.c ∧ K.t ≠ K.l) ∧ (K.q ≠ K.p ∧ K.q ≠ K.v ∧ K.q ≠ K.c ∧ K.q ≠ K.l) ∧ (K.p ≠ K.v ∧ K.p ≠ K.c ∧ K.p ≠ K.l) ∧ (K.v ≠ K.l ∧ K.c ≠ K.l) := by
  obtain ⟨pg, tm, q, pt, v, c, l, _⟩ := h
  refine ⟨⟨pg.ne_ tm.1 (by decide), pg.ne_ q.1 (by decide), pg.ne_ pt.1 (by decide), pg.ne_ v (by decide), pg.ne_ c (by decide), pg.ne_ l (by decide)⟩,
    ⟨tm.1.ne_ q.1 (by decide), tm.1.ne_ pt.1 (by decide), tm.1.ne_ v (by decide), tm.1.ne_ c (by decide), tm.1.ne_ l (by decide)⟩,
    ⟨q.1.ne_ pt.1 (by decide), q.1.ne_ v (by decide), q.1.ne_ c (by decide), q.1.ne_ l (by decide)⟩,
    ⟨pt.1.ne_ v (by decide), pt.1.ne_ c (by decide), pt.1.ne_ l (by decide)⟩, v.ne_ l (by decide), c.ne_ l (by decide)⟩
theorem RHp.cells (h : RHp w r d K Z x) : w.cell? ⟨r, 0, none⟩ = some (.int .u8 x.buf) ∧ w.cell? ⟨r, 1, none⟩ = some (.pointer (some ⟨K.t, 0, none⟩)) ∧ w.cell? ⟨r, 2, none⟩ = some (.pointer (some ⟨K.q, 0, none⟩)) ∧ w.cell? ⟨r, 3, none⟩ = some (.pointer (some ⟨K.p, 0, none⟩)) ∧
    w.cell? ⟨r, 4, none⟩ = some (.pointer (some ⟨K.v, 0, none⟩)) ∧ w.cell? ⟨r, 5, none⟩ = some (.pointer (some ⟨K.c, 0, none⟩)) ∧ w.cell? ⟨r, 6, none⟩ = some (.pointer (some ⟨K.l, 0, none⟩)) ∧ w.cell? ⟨r, 7, none⟩ = some (.int .i64 x.now) :=
  ⟨h.pg.cell 0, h.pg.cell 1, h.pg.cell 2, h.pg.cell 3, h.pg.cell 4, h.pg.cell 5, h.pg.cell 6, h.pg.cell 7⟩
theorem RHp.vtm (h : RHp w r d K Z x) {s : Tm} (h' : RTM w' K.t s) (k : Kp [K.t] w w') : RHp w' r d K Z { x with tm := s } := by
  obtain ⟨⟨a1, a2, a3, a4, a5, a6⟩, ⟨b1, b2, b3, b4, b5⟩, _⟩ := h.nes
  exact ⟨h.pg.kp k (by simpa using a1), h', h.q.kp k (by simpa using b1.symm), h.pt.kp k (by simpa using b2.symm), h.v.kp k (by simpa using b3.symm), h.c.kp k (by simpa using b4.symm), h.l.kp k (by simpa using b5.symm), h.ne⟩
theorem RHp.vq (h : RHp w r d K Z x) {s : Iq} (h' : RQ w' K.q s) (k : Kp [K.q] w w') : RHp w' r d K Z { x with q := s } := by
  obtain ⟨⟨a1, a2, a3, a4, a5, a6⟩, ⟨b1, b2, b3, b4, b5⟩, ⟨c1, c2, c3, c4⟩, _⟩ := h.nes
  exact ⟨h.pg.kp k (by simpa using a2), ⟨h.tm.1.kp k (by simpa using b1), h.tm.2⟩, h', h.pt.kp k (by simpa using c1.symm), h.v.kp k (by simpa using c2.symm), h.c.kp k (by simpa using c3.symm), h.l.kp k (by simpa using c4.symm), h.ne⟩
theorem RHp.vpt (h : RHp w r d K Z x) {s : Pt} {t : Nat} (h' : RP w' K.p Z.A3 d.np Z.c3 t s) (k : Kp [K.p] w w') : RHp w' r d K Z { x with pt := s, tp := t } := by
  obtain ⟨⟨a1, a2, a3, a4, a5, a6⟩, ⟨b1, b2, b3, b4, b5⟩, ⟨c1, c2, c3, c4⟩, ⟨d1, d2, d3⟩, _⟩ := h.nes
  exact ⟨h.pg.kp k (by simpa using a3), ⟨h.tm.1.kp k (by simpa using b2), h.tm.2⟩, h.q.kp k (by simpa using c1), h', h.v.kp k (by simpa using d1.symm), h.c.kp k (by simpa using d2.symm), h.l.kp k (by simpa using d3.symm), h.ne⟩
theorem RHp.vv (h : RHp w r d K Z x) {t : Nat} (h' : Blk w' K.v 113 (rfC Z.A1 d.nv Z.c1 t)) (k : Kp [K.v] w w') : RHp w' r d K Z { x with tv := t } := by
  obtain ⟨⟨a1, a2, a3, a4, a5, a6⟩, ⟨b1, b2, b3, b4, b5⟩, ⟨c1, c2, c3, c4⟩, ⟨d1, d2, d3⟩, e1, e2⟩ := h.nes
  exact ⟨h.pg.kp k (by simpa using a4), ⟨h.tm.1.kp k (by simpa using b3), h.tm.2⟩, h.q.kp k (by simpa using c2), h.pt.kp k (by simpa using d1), h', h.c.kp k (by simpa using h.ne.symm), h.l.kp k (by simpa using e1.symm), h.ne⟩
theorem RHp.vc (h : RHp w r d K Z x) {t : Nat} (h' : Blk w' K.c 113 (rfC Z.A2 d.nc Z.c2 t)) (k : Kp [K.c] w w') : RHp w' r d K Z { x with tc := t } := by
  obtain ⟨⟨a1, a2, a3, a4, a5, a6⟩, ⟨b1, b2, b3, b4, b5⟩, ⟨c1, c2, c3, c4⟩, ⟨d1, d2, d3⟩, e1, e2⟩ := h.nes
  exact ⟨h.pg.kp k (by simpa using a5), ⟨h.tm.1.kp k (by simpa using b4), h.tm.2⟩, h.q.kp k (by simpa using c3), h.pt.kp k (by simpa using d2), h.v.kp k (by simpa using h.ne), h', h.l.kp k (by simpa using e2.symm), h.ne⟩
theorem RHp.vl (h : RHp w r d K Z x) {s : Nat} {ro : Bool} (h' : Blk w' K.l 115 (rlC Z.A d.n Z.c s ro)) (k : Kp [K.l] w w') : RHp w' r d K Z { x with s := s, ro := ro } := by
  obtain ⟨⟨a1, a2, a3, a4, a5, a6⟩, ⟨b1, b2, b3, b4, b5⟩, ⟨c1, c2, c3, c4⟩, ⟨d1, d2, d3⟩, e1, e2⟩ := h.nes
  exact ⟨h.pg.kp k (by simpa using a6), ⟨h.tm.1.kp k (by simpa using b5), h.tm.2⟩, h.q.kp k (by simpa using c4), h.pt.kp k (by simpa using d3), h.v.kp k (by simpa using e1), h.c.kp k (by simpa using e2), h', h.ne⟩
/-- The page's own block. -/
theorem RHp.vpg (h : RHp w r d K Z x) (i : Nat) (u : Value) {y : Hp} (e : (rhC K x).setIfInBounds i u = rhC K y) (e1 : y.tm = x.tm) (e2 : y.q = x.q) (e3 : y.pt = x.pt ∧ y.tp = x.tp) (e4 : y.tv = x.tv) (e5 : y.tc = x.tc) (e6 : y.s = x.s ∧ y.ro = x.ro) :
    RHp (w.setCell ⟨r, i, none⟩ u) r d K Z y ∧ Kp [r] w (w.setCell ⟨r, i, none⟩ u) := by
  have k : Kp [r] w (w.setCell ⟨r, i, none⟩ u) := (Kp.refl _ _).setCell (.inl (by simp)) _
  obtain ⟨⟨a1, a2, a3, a4, a5, a6⟩, _⟩ := h.nes
  refine ⟨⟨by rw [← e]; exact h.pg.set_ i u, ?_, ?_, ?_, ?_, ?_, ?_, h.ne⟩, k⟩
  · rw [e1]; exact ⟨h.tm.1.kp k (by simpa using a1.symm), h.tm.2⟩
  · rw [e2]; exact h.q.kp k (by simpa using a2.symm)
  · rw [e3.1, e3.2]; exact h.pt.kp k (by simpa using a3.symm)
  · rw [e4]; exact h.v.kp k (by simpa using a4.symm)
  · rw [e5]; exact h.c.kp k (by simpa using a5.symm)
  · rw [e6.1, e6.2]; exact h.l.kp k (by simpa using a6.symm)
theorem RHp.vbuf (h : RHp w r d K Z x) (u : Int) : RHp (w.setCell ⟨r, 0, none⟩ (.int .u8 u)) r d K Z { x with buf := u } ∧ Kp [r] w (w.setCell ⟨r, 0, none⟩ (.int .u8 u)) := h.vpg 0 _ rfl rfl rfl ⟨rfl, rfl⟩ rfl rfl ⟨rfl, rfl⟩
theorem RHp.vnow (h : RHp w r d K Z x) (u : Int) : RHp (w.setCell ⟨r, 7, none⟩ (.int .i64 u)) r d K Z { x with now := u } ∧ Kp [r] w (w.setCell ⟨r, 7, none⟩ (.int .i64 u)) := h.vpg 7 _ rfl rfl rfl ⟨rfl, rfl⟩ rfl rfl ⟨rfl, rfl⟩
end
/-- What a Next of the reference's feed leaves. -/
def RfR (v : Value) (g n c t : Nat) (A : Option Addr) (w : World) (e : Ending) (w' : World) : Prop := e = .returned v ∧ Blk w' g 113 (rfC A n c t) ∧ Kp [g] w w'
set_option maxHeartbeats 2000000 in
theorem rfnext_any {w : World} {g n c t : Nat} {A : Option Addr} {z : Nat → Int} (h : Blk w g 113 (rfC A n c t)) (R : IRow w .u8 A n z) (hn : n ≤ 140737488355328) (ht : t ≤ 1000000000) :
    Calls Tryz.prog 140 #[.pointer (some ⟨g, 0, none⟩)] w (RfR (.int .u8 (peekI (n - t) (fun j => z (t + j)) 0)) g n c (t + 1) A w) := by
  have H := Lib.hid h
  have HR := Lib.hid R
  clear h R
  obtain ⟨b, hb⟩ : ∃ b, peekI (n - t) (fun j => z (t + j)) 0 = b := ⟨_, rfl⟩
  rw [hb]
  have HB := Lib.hid hb
  clear hb
  go_enter Tryz.func140, Tryz.ntmps140
  go_wp2_with fail
  refine (rppeek_any (H.out.cell 0) (H.out.cell 1) HR.out hn ht).mono ?_
  rw [HB.out]
  rintro e w1 ⟨rfl, k1⟩
  have H1 := Lib.hid (H.out.kp k1 (by simp))
  have c1 : w1.cell? ⟨g, 1, none⟩ = some (.int .i64 t) := H1.out.cell 1
  have f1 := H1.out.frozen 1
  go_wp2
  go_ret
  have hb2 := H1.out.set_ 1 (.int .i64 ((t : Int) + 1))
  exact ⟨rfl, hb2, (k1.mono (by simp)).trans ((Kp.refl [g] w1).setCell (.inl (by simp)) _) (by simp)⟩
end Go.Proofs.YtleofglnlfpoeaaGreat
namespace Go.Proofs.YtleofglnlfpoeaaGreat
open Go.RowKit
set_option linter.unusedVariables false
set_option linter.unusedSimpArgs false
set_option maxRecDepth 100000
def RhR (v : Value) (r : Nat) (d : Hd) (J : Rr) (Z : Rz) (y : Hp) (L : List Nat) (w : World) (e : Ending) (w' : World) : Prop := e = .returned v ∧ RHp w' r d J Z y ∧ Kp L w w'
def Rr.all (J : Rr) (r : Nat) : List Nat := [r, J.t, J.q, J.p, J.v, J.c, J.l]
/-- The edges lie in a block that isn't of the page's own. -/
def EOff (Z : Rz) (n : Nat) (J : Rr) : Prop := ∀ ad, Z.A = some ad → 0 < n → ad.block ∉ [J.l]
section
variable {w : World} {r : Nat} {d : Hd} {J : Rr} {Z : Rz} {x : Hp}
theorem rq_due {s : Iq} (h : RQ w r s) : RQ (w.setCell ⟨r, 1, none⟩ (.bool true)) r ⟨s.d, true⟩ ∧ Kp [r] w (w.setCell ⟨r, 1, none⟩ (.bool true)) := ⟨⟨h.1.set_ 1 _, h.2⟩, (Kp.refl _ _).setCell (.inl (by simp)) _⟩
set_option maxHeartbeats 4000000 in
theorem rhto_any (h : RHp w r d J Z x) (hok : x.ok d) (hG : Good d.n d.es) (RE : ERow w Z.A d.n d.es) (hE : ∀ w' : World, Kp (J.all r) w w' → ERow w' Z.A d.n d.es) (hA : EOff Z d.n J) (t : Int) (ht : t ≤ 9223372036854775807) :
    Calls Tryz.prog 138 #[.pointer (some ⟨r, 0, none⟩), .int .i64 t] w (RhR (.tuple #[]) r d J Z (x.to d t) (J.all r) w) := by
  have n0 : 0 ≤ x.now := hok.2.2.2.2.2
  have hs : x.s ≤ d.n := hok.2.1
  obtain ⟨c0, c1, c2, c3, c4, c5, c6, c7⟩ := h.cells
  have H := Lib.hid h
  have HE := Lib.hid hE
  have HA := Lib.hid hA
  have HG := Lib.hid hG
  clear h RE hE hA hG hok
  by_cases hle : t ≤ x.now
  · have e : x.to d t = x := by unfold Hp.to; rw [if_pos hle]
    rw [e]
    clear e
    go_enter Tryz.func138, Tryz.ntmps138
    go_wp2
    first | go_end0 | refine bodyPost_ret (results_none rfl _ _ _) rfl ?_
    exact ⟨rfl, H.out, Kp.refl _ _⟩
  · have hlt : x.now < t := by omega
    have e : x.to d t = { x with tm := x.tm.goN (t - x.now).toNat, q := if 0 < x.tm.overN (t - x.now).toNat then ⟨x.q.d, true⟩ else x.q, s := pass d.es d.n t x.s, ro := roseTo d.es x.ro x.s (pass d.es d.n t x.s - x.s), now := t } := by unfold Hp.to; rw [if_neg hle]
    have hd : t - x.now ≤ 9223372036854775807 := by omega
    have hwr : IntKind.i64.wrap (t - x.now) = t - x.now := IntWalk.i64_in _ (by omega)
    obtain ⟨N, hN⟩ : ∃ N, x.tm.overN (t - x.now).toNat = N := ⟨_, rfl⟩
    rw [hN] at e
    have HN := Lib.hid hN
    have HEQ := Lib.hid e
    clear e hN
    go_enter Tryz.func138, Tryz.ntmps138
    go_wp2_with fail
    refine rg_begin (S := fun w' => w'.cell? ⟨r, 1, none⟩ = some (.pointer (some ⟨J.t, 0, none⟩)) ∧ w'.cell? ⟨r, 7, none⟩ = some (.int .i64 x.now)) 12 #[false, false, false, false, false, false, false, false, false, false, false, false] (by kernel_rfl) (by kernel_rfl) (by kernel_rfl) ?_ (fun hHeld => ?_)
    · exact ⟨c1, c7⟩
    refine rgt 0 (some 10) (v := ?_) rfl ?_ ?_
    rotate_left 1
    · (intro wS hSw; (try dsimp only at hSw); go_simp; try with_reducible rfl)
    refine rgt 1 (some 11) (v := ?_) rfl ?_ ?_
    rotate_left 1
    · (intro wS hSw; (try dsimp only at hSw); go_simp; try with_reducible rfl)
    refine rgt 2 (some 12) (v := ?_) rfl ?_ ?_
    rotate_left 1
    · (intro wS hSw; (try dsimp only at hSw); go_simp; try with_reducible rfl)
    refine rgt 3 (some 13) (v := ?_) rfl ?_ ?_
    rotate_left 1
    · (intro wS hSw; (try dsimp only at hSw); go_simp; try with_reducible rfl)
    refine rgt 4 (some 14) (v := ?_) rfl ?_ ?_
    rotate_left 1
    · (intro wS hSw; (try dsimp only at hSw); go_simp; try with_reducible rfl)
    refine rgt 5 (some 15) (v := ?_) rfl ?_ ?_
    rotate_left 1
    · (intro wS hSw; (try dsimp only at hSw); go_simp; try with_reducible rfl)
    refine rgt 6 (some 16) (v := ?_) rfl ?_ ?_
    rotate_left 1
    · (intro wS hSw; (try dsimp only at hSw); go_simp; try with_reducible rfl)
    refine rgt 7 (some 17) (v := ?_) rfl ?_ ?_
    rotate_left 1
    · (intro wS hSw; (try dsimp only at hSw); go_simp; try with_reducible rfl)
    refine rgt 8 (some 18) (v := ?_) rfl ?_ ?_
    rotate_left 1
    · (intro wS hSw; (try dsimp only at hSw); go_simp; try with_reducible rfl)
    refine rgt 9 (some 19) (v := ?_) rfl ?_ ?_
    rotate_left 1
    · (intro wS hSw; (try dsimp only at hSw); go_simp; try with_reducible rfl)
    try simp only [Act.put, List.setIfInBounds_toArray, List.set_cons_zero, List.set_cons_succ]
    try rw [hwr]
    refine rg_next (i := 10) (l := #[true, true, true, true, true, true, true, true, true, true, true, false]) (fuel := 1) (by kernel_rfl) rfl (by kernel_rfl) (by kernel_rfl) (fun K hK => ?_)
    go_simp
    (go_at_call 170)
    refine (rtgo_any (H.out.kp0 (Kp.refl _ _).drew).tm (t - x.now) hd).mono ?_
    rw [HN.out]
    rintro e w1 ⟨rfl, y1, y2⟩
    replace y2 : Kp [J.t] w w1 := ((Kp.refl [J.t] w).drew).trans y2 (by simp)
    have H1 := Lib.hid (H.out.vtm y1 y2)
    have K1 : Hid (Kp (J.all r) w w1) := Lib.hid (y2.mono (by simp [Rr.all]))
    have z1 := H1.out.cells.2.1
    have z7 := H1.out.cells.2.2.2.2.2.2.2
    dsimp only at z7
    clear y1 y2 c0 c1 c2 c3 c4 c5 c6 c7 H
    first | (refine hK.out _ _ ?_ (fun hHeld => ?_)) | (go_wp2_with fail; refine hK.out _ _ ?_ (fun hHeld => ?_))
    · (try dsimp only); exact ⟨z1, z7⟩
    clear hK K
    refine rgt 11 (some 21) (v := ?_) rfl ?_ ?_
    rotate_left 1
    · (intro wS hSw; (try dsimp only at hSw); go_simp; try with_reducible rfl)
    try simp only [Act.put, List.setIfInBounds_toArray, List.set_cons_zero, List.set_cons_succ]
    refine wpAnyH_done (by kernel_rfl) ?_ _
    clear hHeld z1 z7
    obtain ⟨y, hy⟩ : ∃ y : Hp, { x with tm := x.tm.goN (t - x.now).toNat, q := if 0 < N then ⟨x.q.d, true⟩ else x.q } = y := ⟨_, rfl⟩
    have HY := Lib.hid hy
    have hys : y.s = x.s := by rw [← hy]
    have fin : ∀ w2, RHp w2 r d J Z y → Kp (J.all r) w w2 → Calls Tryz.prog 171 #[.pointer (some ⟨J.l, 0, none⟩), .int .i64 t] w2 fun e w3 =>
        e = .returned (.tuple #[]) ∧ RHp w3 r d J Z { y with s := pass d.es d.n t y.s, ro := roseTo d.es y.ro y.s (pass d.es d.n t y.s - y.s) } ∧ Kp (J.all r) w w3 := fun w2 h2 k2 => by
      refine (rto_any h2.l (HE.out _ k2) HA.out (by rw [hys]; exact hs) HG.out.1 t).mono ?_
      rintro e w3 ⟨rfl, l3, k3⟩
      exact ⟨rfl, h2.vl l3 k3, k2.trans (k3.mono (M := J.all r) (by simp [Rr.all])) (fun z hz => .inl hz)⟩
    have FIN := Lib.hid fin
    clear hy fin
    by_cases h0 : 0 < N
    · have hp : (0 : Int) < (N : Int) := by omega
      obtain ⟨d0, d1, d2, d3, d4, d5, d6, d7⟩ := H1.out.cells
      have q1 : w1.cell? ⟨J.q, 1, none⟩ = some (.bool x.q.due) := H1.out.q.1.cell 1
      have f1 := H1.out.q.1.frozen 1
      obtain ⟨y1, y2⟩ := rq_due H1.out.q
      have H2 : Hid (RHp (w1.setCell ⟨J.q, 1, none⟩ (.bool true)) r d J Z y) := Lib.hid (by have := H1.out.vq y1 y2; rw [← HY.out, if_pos h0]; exact this)
      have K2 : Hid (Kp (J.all r) w (w1.setCell ⟨J.q, 1, none⟩ (.bool true))) := Lib.hid (K1.out.trans (y2.mono (M := J.all r) (by simp [Rr.all])) (fun z hz => .inl hz))
      obtain ⟨d0', d1', d2', d3', d4', d5', d6', d7'⟩ := H2.out.cells
      clear y1 y2
      go_wp2_with fail
      refine (FIN.out _ H2.out K2.out).mono ?_
      rintro e w3 ⟨rfl, h3, k3⟩
      obtain ⟨r1, r2⟩ := h3.vnow t
      have k0 : w3.cell? ⟨r, 7, none⟩ = _ := h3.cells.2.2.2.2.2.2.2
      have g0 := h3.pg.frozen 7
      have R1 := Lib.hid r1
      have R2 := Lib.hid (k3.trans (r2.mono (M := J.all r) (by simp [Rr.all])) (fun z hz => .inl hz))
      clear h3 k3 r1 r2 d0 d1 d2 d3 d4 d5 d6 d7 d0' d1' d2' d3' d4' d5' d6' d7' q1 f1
      go_wp2
      first | go_end0 | refine bodyPost_ret (results_none rfl _ _ _) rfl ?_
      refine ⟨rfl, ?_, R2.out⟩
      rw [HEQ.out]
      have := HY.out
      subst this
      exact R1.out
    · have hp : ¬ (0 : Int) < (N : Int) := by omega
      have H2 : Hid (RHp w1 r d J Z y) := Lib.hid (by have := H1.out; rw [← HY.out, if_neg h0]; exact this)
      obtain ⟨d0, d1, d2, d3, d4, d5, d6, d7⟩ := H1.out.cells
      go_wp2_with fail
      refine (FIN.out _ H2.out K1.out).mono ?_
      rintro e w3 ⟨rfl, h3, k3⟩
      obtain ⟨r1, r2⟩ := h3.vnow t
      have k0 : w3.cell? ⟨r, 7, none⟩ = _ := h3.cells.2.2.2.2.2.2.2
      have g0 := h3.pg.frozen 7
      have R1 := Lib.hid r1
      have R2 := Lib.hid (k3.trans (r2.mono (M := J.all r) (by simp [Rr.all])) (fun z hz => .inl hz))
      clear h3 k3 r1 r2 d0 d1 d2 d3 d4 d5 d6 d7
      go_wp2
      first | go_end0 | refine bodyPost_ret (results_none rfl _ _ _) rfl ?_
      refine ⟨rfl, ?_, R2.out⟩
      rw [HEQ.out]
      have := HY.out
      subst this
      exact R1.out
end
end Go.Proofs.YtleofglnlfpoeaaGreat
namespace Go.Proofs.YtleofglnlfpoeaaGreat
open Go.RowKit
set_option linter.unusedVariables false
set_option linter.unusedSimpArgs false
set_option maxRecDepth 100000
section
variable {w : World} {r : Nat} {d : Hd} {J : Rr} {Z : Rz} {x : Hp}
theorem rhup_v (h : RHp w r d J Z x) (hs : x.s ≤ d.n) (hn : d.n ≤ 1000) (R : ERow w Z.A d.n d.es) (l : Int) {u : Bool} (e : upTo d.es x.s l = u) :
    Calls Tryz.prog 107 #[.pointer (some ⟨J.l, 0, none⟩), .int .u8 l] w fun e w' => e = .returned (.bool u) ∧ w = w' := e ▸ rup_any h.l R hs hn l
theorem rqchoose_v {g : Nat} {s : Iq} (h : RQ w g s) {u0 u1 u2 u3 m : Bool} {x : Int} (e : chI s.d s.due u0 u1 u2 u3 m = x) :
    Calls Tryz.prog 106 #[.pointer (some ⟨g, 0, none⟩), .agg #[.bool u0, .bool u1, .bool u2, .bool u3], .bool m] w fun e w' => e = .returned (.int .u8 x) ∧ Below w.heap.size w w' := e ▸ rqchoose_any h u0 u1 u2 u3 m
set_option maxHeartbeats 4000000 in
theorem rhchoose_any (h : RHp w r d J Z x) (hok : x.ok d) (hG : Good d.n d.es) (RE : ERow w Z.A d.n d.es) (m : Bool) :
    Calls Tryz.prog 60 #[.pointer (some ⟨r, 0, none⟩), .bool m] w fun e w' => e = .returned (.int .u8 (x.ch d m)) ∧ Below w.heap.size w w' := by
  have hs : x.s ≤ d.n := hok.2.1
  have hn : d.n ≤ 1000 := hG.1
  have H := Lib.hid (h.kp0 (Kp.refl _ _).drew)
  have HR : Hid (ERow w.drew Z.A d.n d.es) := Lib.hid (FRow.kp RE (L := []) (Kp.refl _ _).drew (by simp))
  obtain ⟨c0, c1, c2, c3, c4, c5, c6, c7⟩ := h.cells
  have l2 : w.cell? ⟨J.l, 2, none⟩ = some (.bool x.ro) := h.l.cell 2
  obtain ⟨u0, h0⟩ : ∃ u, upTo d.es x.s 0 = u := ⟨_, rfl⟩
  obtain ⟨u2, h2⟩ : ∃ u, upTo d.es x.s 2 = u := ⟨_, rfl⟩
  obtain ⟨u3, h3⟩ : ∃ u, upTo d.es x.s 3 = u := ⟨_, rfl⟩
  obtain ⟨v, hv⟩ : ∃ v, x.ch d m = v := ⟨_, rfl⟩
  have hv2 : chI x.q.d x.q.due u0 x.ro u2 u3 m = v := by rw [← hv, ← h0, ← h2, ← h3]; rfl
  rw [hv]
  have H0 := Lib.hid h0
  have H2 := Lib.hid h2
  have H3 := Lib.hid h3
  have HV := Lib.hid hv2
  clear h h0 h2 h3 hv hv2 RE hok hG c0 c1 c3 c4 c5 c7
  go_enter Tryz.func60, Tryz.ntmps60
  go_wp2_with fail
  refine rg_begin (S := fun w' => w'.cell? ⟨r, 2, none⟩ = some (.pointer (some ⟨J.q, 0, none⟩)) ∧ w'.cell? ⟨r, 6, none⟩ = some (.pointer (some ⟨J.l, 0, none⟩)) ∧ w'.cell? ⟨J.l, 2, none⟩ = some (.bool x.ro)) 30 #[false, false, false, false, false, false, false, false, false, false, false, false, false, false, false, false, false, false, false, false, false, false, false, false, false, false, false, false, false, false] (by kernel_rfl) (by kernel_rfl) (by kernel_rfl) ?_ (fun hHeld => ?_)
  · exact ⟨c2, c6, l2⟩
  refine rgt 0 (some 5) (v := ?_) rfl ?_ ?_
  rotate_left 1
  · (intro wS hSw; (try dsimp only at hSw); go_simp; try with_reducible rfl)
  refine rgt 1 (some 6) (v := ?_) rfl ?_ ?_
  rotate_left 1
  · (intro wS hSw; (try dsimp only at hSw); go_simp; try with_reducible rfl)
  refine rgt 2 (some 7) (v := ?_) rfl ?_ ?_
  rotate_left 1
  · (intro wS hSw; (try dsimp only at hSw); go_simp; try with_reducible rfl)
  refine rgt 3 (some 8) (v := ?_) rfl ?_ ?_
  rotate_left 1
  · (intro wS hSw; (try dsimp only at hSw); go_simp; try with_reducible rfl)
  refine rgt 4 (some 9) (v := ?_) rfl ?_ ?_
  rotate_left 1
  · (intro wS hSw; (try dsimp only at hSw); go_simp; try with_reducible rfl)
  refine rgt 5 (some 10) (v := ?_) rfl ?_ ?_
  rotate_left 1
  · (intro wS hSw; (try dsimp only at hSw); go_simp; try with_reducible rfl)
  refine rgt 6 (some 11) (v := ?_) rfl ?_ ?_
  rotate_left 1
  · (intro wS hSw; (try dsimp only at hSw); go_simp; try with_reducible rfl)
  refine rgt 7 (some 12) (v := ?_) rfl ?_ ?_
  rotate_left 1
  · (intro wS hSw; (try dsimp only at hSw); go_simp; try with_reducible rfl)
  refine rgt 9 (some 14) (v := ?_) rfl ?_ ?_
  rotate_left 1
  · (intro wS hSw; (try dsimp only at hSw); go_simp; try with_reducible rfl)
  refine rgt 10 (some 15) (v := ?_) rfl ?_ ?_
  rotate_left 1
  · (intro wS hSw; (try dsimp only at hSw); go_simp; try with_reducible rfl)
  refine rgt 11 (some 16) (v := ?_) rfl ?_ ?_
  rotate_left 1
  · (intro wS hSw; (try dsimp only at hSw); go_simp; try with_reducible rfl)
  refine rgt 12 (some 17) (v := ?_) rfl ?_ ?_
  rotate_left 1
  · (intro wS hSw; (try dsimp only at hSw); go_simp; try with_reducible rfl)
  refine rgt 13 (some 18) (v := ?_) rfl ?_ ?_
  rotate_left 1
  · (intro wS hSw; (try dsimp only at hSw); go_simp; try with_reducible rfl)
  refine rgt 14 (some 19) (v := ?_) rfl ?_ ?_
  rotate_left 1
  · (intro wS hSw; (try dsimp only at hSw); go_simp; try with_reducible rfl)
  refine rgt 15 (some 20) (v := ?_) rfl ?_ ?_
  rotate_left 1
  · (intro wS hSw; (try dsimp only at hSw); go_simp; try with_reducible rfl)
  refine rgt 16 (some 21) (v := ?_) rfl ?_ ?_
  rotate_left 1
  · (intro wS hSw; (try dsimp only at hSw); go_simp; try with_reducible rfl)
  refine rgt 17 (some 22) (v := ?_) rfl ?_ ?_
  rotate_left 1
  · (intro wS hSw; (try dsimp only at hSw); go_simp; try with_reducible rfl)
  refine rgt 18 (some 23) (v := ?_) rfl ?_ ?_
  rotate_left 1
  · (intro wS hSw; (try dsimp only at hSw); go_simp; try with_reducible rfl)
  refine rgt 19 (some 24) (v := ?_) rfl ?_ ?_
  rotate_left 1
  · (intro wS hSw; (try dsimp only at hSw); go_simp; try with_reducible rfl)
  refine rgt 21 (some 26) (v := ?_) rfl ?_ ?_
  rotate_left 1
  · (intro wS hSw; (try dsimp only at hSw); go_simp; try with_reducible rfl)
  refine rgt 22 (some 27) (v := ?_) rfl ?_ ?_
  rotate_left 1
  · (intro wS hSw; (try dsimp only at hSw); go_simp; try with_reducible rfl)
  refine rgt 23 (some 28) (v := ?_) rfl ?_ ?_
  rotate_left 1
  · (intro wS hSw; (try dsimp only at hSw); go_simp; try with_reducible rfl)
  refine rgt 24 (some 29) (v := ?_) rfl ?_ ?_
  rotate_left 1
  · (intro wS hSw; (try dsimp only at hSw); go_simp; try with_reducible rfl)
  refine rgt 27 (some 32) (v := ?_) rfl ?_ ?_
  rotate_left 1
  · (intro wS hSw; (try dsimp only at hSw); go_simp; try with_reducible rfl)
  try simp only [Act.put, List.setIfInBounds_toArray, List.set_cons_zero, List.set_cons_succ]
  refine rg_next (i := 8) (l := #[true, true, true, true, true, true, true, true, true, true, true, true, true, true, true, true, true, true, true, true, false, true, true, true, true, false, false, true, false, false]) (fuel := 5) (by kernel_rfl) rfl (by kernel_rfl) (by kernel_rfl) (fun K hK => ?_)
  go_simp
  (go_at_call 107)
  refine (rhup_v H.out hs hn HR.out 0 H0.out).mono ?_
  rintro e w' ⟨rfl, rfl⟩
  first | (refine hK.out _ _ ?_ (fun hHeld => ?_)) | (go_wp2_with fail; refine hK.out _ _ ?_ (fun hHeld => ?_))
  · (try dsimp only); exact ⟨c2, c6, l2⟩
  clear hK K
  try simp only [Act.put, List.setIfInBounds_toArray, List.set_cons_zero, List.set_cons_succ]
  refine rg_next (i := 20) (l := #[true, true, true, true, true, true, true, true, true, true, true, true, true, true, true, true, true, true, true, true, true, true, true, true, true, false, false, true, false, false]) (fuel := 4) (by kernel_rfl) rfl (by kernel_rfl) (by kernel_rfl) (fun K hK => ?_)
  go_simp
  (go_at_call 107)
  refine (rhup_v H.out hs hn HR.out 2 H2.out).mono ?_
  rintro e w' ⟨rfl, rfl⟩
  first | (refine hK.out _ _ ?_ (fun hHeld => ?_)) | (go_wp2_with fail; refine hK.out _ _ ?_ (fun hHeld => ?_))
  · (try dsimp only); exact ⟨c2, c6, l2⟩
  clear hK K
  try simp only [Act.put, List.setIfInBounds_toArray, List.set_cons_zero, List.set_cons_succ]
  refine rg_next (i := 25) (l := #[true, true, true, true, true, true, true, true, true, true, true, true, true, true, true, true, true, true, true, true, true, true, true, true, true, true, false, true, false, false]) (fuel := 3) (by kernel_rfl) rfl (by kernel_rfl) (by kernel_rfl) (fun K hK => ?_)
  go_simp
  (go_at_call 107)
  refine (rhup_v H.out hs hn HR.out 3 H3.out).mono ?_
  rintro e w' ⟨rfl, rfl⟩
  first | (refine hK.out _ _ ?_ (fun hHeld => ?_)) | (go_wp2_with fail; refine hK.out _ _ ?_ (fun hHeld => ?_))
  · (try dsimp only); exact ⟨c2, c6, l2⟩
  clear hK K
  refine rgt 26 (some 31) (v := ?_) rfl ?_ ?_
  rotate_left 1
  · (intro wS hSw; (try dsimp only at hSw); go_simp; try with_reducible rfl)
  try simp only [Act.put, List.setIfInBounds_toArray, List.set_cons_zero, List.set_cons_succ]
  refine rg_next (i := 28) (l := #[true, true, true, true, true, true, true, true, true, true, true, true, true, true, true, true, true, true, true, true, true, true, true, true, true, true, true, true, true, false]) (fuel := 1) (by kernel_rfl) rfl (by kernel_rfl) (by kernel_rfl) (fun K hK => ?_)
  go_simp
  (go_at_call 106)
  refine (rqchoose_v H.out.q HV.out).mono ?_
  rintro e w1 ⟨rfl, b1⟩
  have B1 : Hid (Below w.heap.size w w1) := Lib.hid ((Below.refl _ w).drew.trans b1)
  have H1 := Lib.hid (H.out.keep b1)
  have x2 := H1.out.cells.2.2.1
  have x6 := H1.out.cells.2.2.2.2.2.2.1
  have y2 : w1.cell? ⟨J.l, 2, none⟩ = some (.bool x.ro) := H1.out.l.cell 2
  clear b1
  first | (refine hK.out _ _ ?_ (fun hHeld => ?_)) | (go_wp2_with fail; refine hK.out _ _ ?_ (fun hHeld => ?_))
  · (try dsimp only); exact ⟨x2, x6, y2⟩
  clear hK K
  refine rgt 29 (some 4) (v := ?_) rfl ?_ ?_
  rotate_left 1
  · (intro wS hSw; (try dsimp only at hSw); go_simp; try with_reducible rfl)
  try simp only [Act.put, List.setIfInBounds_toArray, List.set_cons_zero, List.set_cons_succ]
  refine wpAnyH_done (by kernel_rfl) ?_ _
  go_wp2_with fail
  go_ret
  exact ⟨rfl, B1.out⟩
set_option maxHeartbeats 4000000 in
theorem rhentered_any (h : RHp w r d J Z x) (k : Int) (k0 : 0 ≤ k) (k1 : k ≤ 255) :
    Calls Tryz.prog 92 #[.pointer (some ⟨r, 0, none⟩), .int .u8 k] w (RhR (.tuple #[]) r d J Z (x.en k) (J.all r) w) := by
  obtain ⟨c0, c1, c2, c3, c4, c5, c6, c7⟩ := h.cells
  have H := Lib.hid h
  clear h
  by_cases h2 : k = 2
  · subst h2
    have e : x.en 2 = { x with ro := false } := by unfold Hp.en; rw [if_pos rfl]
    rw [e]
    have l2 : w.cell? ⟨J.l, 2, none⟩ = some (.bool x.ro) := H.out.l.cell 2
    have f2 := H.out.l.frozen 2
    clear e
    go_enter Tryz.func92, Tryz.ntmps92
    go_wp2
    first | go_end0 | refine bodyPost_ret (results_none rfl _ _ _) rfl ?_
    have kp : Kp [J.l] w (w.setCell ⟨J.l, 2, none⟩ (.bool false)) := (Kp.refl _ _).setCell (.inl (by simp)) _
    exact ⟨rfl, H.out.vl (s := x.s) (ro := false) (H.out.l.set_ 2 _) kp, kp.mono (by simp [Rr.all])⟩
  · have n2 : (k == 2) = false := by simpa using h2
    by_cases h1 : k = 1
    · subst h1
      have e : x.en 1 = { x with tm := ⟨x.tm.gone, x.tm.c, x.tm.r, false⟩, q := ⟨0, false⟩ } := by
        unfold Hp.en; rw [if_neg (by decide), if_pos rfl]; rfl
      rw [e]
      clear e h2 n2
      have t2 : w.cell? ⟨J.t, 2, none⟩ = some (.bool x.tm.on) := H.out.tm.1.cell 2
      have f2 := H.out.tm.1.frozen 2
      have kt : Kp [J.t] w (w.setCell ⟨J.t, 2, none⟩ (.bool false)) := (Kp.refl _ _).setCell (.inl (by simp)) _
      have H1 : Hid (RHp (w.setCell ⟨J.t, 2, none⟩ (.bool false)) r d J Z { x with tm := ⟨x.tm.gone, x.tm.c, x.tm.r, false⟩ }) := Lib.hid (H.out.vtm (s := ⟨x.tm.gone, x.tm.c, x.tm.r, false⟩) ⟨H.out.tm.1.set_ 2 _, H.out.tm.2⟩ kt)
      have a2 := H1.out.cells.2.2.1
      have q0 : (w.setCell ⟨J.t, 2, none⟩ (.bool false)).cell? ⟨J.q, 0, none⟩ = some (.int .u8 x.q.d) := H1.out.q.1.cell 0
      have g0 := H1.out.q.1.frozen 0
      have kq : Kp [J.q] (w.setCell ⟨J.t, 2, none⟩ (.bool false)) ((w.setCell ⟨J.t, 2, none⟩ (.bool false)).setCell ⟨J.q, 0, none⟩ (.int .u8 0)) := (Kp.refl _ _).setCell (.inl (by simp)) _
      have H2 : Hid (RHp ((w.setCell ⟨J.t, 2, none⟩ (.bool false)).setCell ⟨J.q, 0, none⟩ (.int .u8 0)) r d J Z { x with tm := ⟨x.tm.gone, x.tm.c, x.tm.r, false⟩, q := ⟨0, x.q.due⟩ }) := Lib.hid (H1.out.vq (s := ⟨0, x.q.due⟩) ⟨H1.out.q.1.set_ 0 _, Nat.zero_le _⟩ kq)
      have b2 := H2.out.cells.2.2.1
      have q1 : ((w.setCell ⟨J.t, 2, none⟩ (.bool false)).setCell ⟨J.q, 0, none⟩ (.int .u8 0)).cell? ⟨J.q, 1, none⟩ = some (.bool x.q.due) := H2.out.q.1.cell 1
      have g1 := H2.out.q.1.frozen 1
      go_enter Tryz.func92, Tryz.ntmps92
      go_wp2
      first | go_end0 | refine bodyPost_ret (results_none rfl _ _ _) rfl ?_
      have kr : Kp [J.q] ((w.setCell ⟨J.t, 2, none⟩ (.bool false)).setCell ⟨J.q, 0, none⟩ (.int .u8 0)) (((w.setCell ⟨J.t, 2, none⟩ (.bool false)).setCell ⟨J.q, 0, none⟩ (.int .u8 0)).setCell ⟨J.q, 1, none⟩ (.bool false)) := (Kp.refl _ _).setCell (.inl (by simp)) _
      refine ⟨rfl, H2.out.vq (s := ⟨0, false⟩) ⟨H2.out.q.1.set_ 1 _, by decide⟩ kr, ?_⟩
      exact ((kt.mono (M := J.all r) (by simp [Rr.all])).trans (kq.mono (M := J.all r) (by simp [Rr.all])) (fun z hz => .inl hz)).trans (kr.mono (M := J.all r) (by simp [Rr.all])) (fun z hz => .inl hz)
    · have n1 : (k == 1) = false := by simpa using h1
      have e : x.en k = x := by unfold Hp.en; rw [if_neg h2, if_neg h1]
      rw [e]
      clear e
      go_enter Tryz.func92, Tryz.ntmps92
      go_wp2
      first | go_end0 | refine bodyPost_ret (results_none rfl _ _ _) rfl ?_
      exact ⟨rfl, H.out, Kp.refl _ _⟩
end
end Go.Proofs.YtleofglnlfpoeaaGreat
