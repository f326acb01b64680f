/-
  Texts of these proofs, one behind the other: Hard9, Hard10, Rh1, Rh2, Rh3, Rh5.
-/
import Derived.Test.YtngfmofjonleeaaGreatKEA22
import Derived.Test.YtngfmofjonleeaaGreatKEA20
import Derived.Test.YtngfmofjonleeaaGreatKEA19
import Derived.Test.YtngfmofjonleeaaGreatKEA18
import Derived.Test.YtngfmofjonleeaaGreatKEA15
import Derived.Test.YtngfmofjonleeaaGreatKEA08
import Derived.Test.YtngfmofjonleeaaGreatKEA03
namespace Go.Proofs.YtngfmofjonleeaaGreat
open Go.RowKit
set_option linter.unusedVariables false
set_option linter.unusedSimpArgs false
set_option maxRecDepth 100000
section
variable {w : World} {A1 A2 A3 A : Option Addr} {n1 c1 n2 c2 n3 c3 n c : Nat} {z1 z2 z3 : Nat → Int} {es : Nat → Iib}
end
section
variable (w : World)
end
end Go.Proofs.YtngfmofjonleeaaGreat
namespace Go.Proofs.YtngfmofjonleeaaGreat
open Go.RowKit
set_option linter.unusedVariables false
set_option linter.unusedSimpArgs false
set_option maxRecDepth 100000
def es0 : Nat → Iib := fun _ => ⟨0, 0, false⟩
def d0 : Hd := ⟨0, es0, 0, fun _ => 0, 0, fun _ => 0, 0, fun _ => 0⟩
/-- A page that was made since. -/
def HT (B : Nat) (W : World) (g : Nat) (d : Hd) (b : Hb) (x : Hp) (w : World) : Prop := HP w g d b x ∧ Below B W w ∧ B ≤ w.heap.size ∧ (B ≤ g ∧ B ≤ b.v ∧ B ≤ b.c ∧ B ≤ b.p)
section
variable {B g : Nat} {W w w' : World} {d : Hd} {b : Hb} {x y : Hp}
theorem HT.on (h : HT B W g d b x w) (k : Below w.heap.size w w') : HT B W g d b x w' := ⟨h.1.keep k, h.2.1.trans (k.mono h.2.2.1), Nat.le_trans h.2.2.1 k.size, h.2.2.2⟩
end
section
variable {w : World} {g : Nat} {d : Hd} {b : Hb} {x y : Hp}
end
end Go.Proofs.YtngfmofjonleeaaGreat
namespace Go.Proofs.YtngfmofjonleeaaGreat
open Go.RowKit
set_option linter.unusedVariables false
set_option linter.unusedSimpArgs false
set_option maxRecDepth 100000
/-- Where its devices lie. -/
structure Rr where
  t : Nat
  q : Nat
  p : Nat
  v : Nat
  c : Nat
  l : Nat
/-- The slices that it was made of. -/
structure Rz where
  A1 : Option Addr
  c1 : Nat
  A2 : Option Addr
  c2 : Nat
  A3 : Option Addr
  c3 : Nat
  A : Option Addr
  c : Nat
def rhC (K : Rr) (x : Hp) : Array Value := #[.int .u8 x.buf, .pointer (some ⟨K.t, 0, none⟩), .pointer (some ⟨K.q, 0, none⟩), .pointer (some ⟨K.p, 0, none⟩), .pointer (some ⟨K.v, 0, none⟩), .pointer (some ⟨K.c, 0, none⟩), .pointer (some ⟨K.l, 0, none⟩), .int .i64 x.now]
def rfC (A : Option Addr) (n c t : Nat) : Array Value := #[.slice A n c, .int .i64 t]
structure RHp (w : World) (r : Nat) (d : Hd) (K : Rr) (Z : Rz) (x : Hp) : Prop where
  pg : Blk w r 104 (rhC K x)
  tm : RTM w K.t x.tm
  q : RQ w K.q x.q
  pt : RP w K.p Z.A3 d.np Z.c3 x.tp x.pt
  v : Blk w K.v 106 (rfC Z.A1 d.nv Z.c1 x.tv)
  c : Blk w K.c 106 (rfC Z.A2 d.nc Z.c2 x.tc)
  l : Blk w K.l 108 (rlC Z.A d.n Z.c x.s x.ro)
  ne : K.v ≠ K.c
section
variable {w w' : World} {r : Nat} {d : Hd} {K : Rr} {Z : Rz} {x : Hp} {L : List Nat}
theorem RHp.kp (h : RHp w r d K Z x) (k : Kp L w w') (hL : r ∉ L ∧ K.t ∉ L ∧ K.q ∉ L ∧ K.p ∉ L ∧ K.v ∉ L ∧ K.c ∉ L ∧ K.l ∉ L) : RHp w' r d K Z x := by
  obtain ⟨n0, n1, n2, n3, n4, n5, n6⟩ := hL
  exact ⟨h.pg.kp k n0, ⟨h.tm.1.kp k n1, h.tm.2⟩, h.q.kp k n2, h.pt.kp k n3, h.v.kp k n4, h.c.kp k n5, h.l.kp k n6, h.ne⟩
theorem RHp.keep (h : RHp w r d K Z x) (k : Below w.heap.size w w') : RHp w' r d K Z x := h.kp (L := []) (Kp.of_below k) (by simp)
theorem RHp.kp0 (h : RHp w r d K Z x) (k : Kp [] w w') : RHp w' r d K Z x := h.kp k (by simp)
/-- All of them are blocks of their own. -/
theorem RHp.nes (h : RHp w r d K Z x) : (r ≠ K.t ∧ r ≠ K.q ∧ r ≠ K.p ∧ r ≠ K.v ∧ r ≠ K.c ∧ r ≠ K.l) ∧ (K.t ≠ K.q ∧ K.t ≠ K.p ∧ K.t ≠ K.v ∧ K.t ≠ K.c ∧ K.t ≠ K.l) ∧ (K.q ≠ K.p ∧ K.q ≠ K.v ∧ K.q ≠ K.c ∧ K.q ≠ K.l) ∧ (K.p ≠ K.v ∧ K.p ≠ K.c ∧ K.p ≠ K.l) ∧ (K.v ≠ K.l ∧ K.c ≠ K.l) := by
  obtain ⟨pg, tm, q, pt, v, c, l, _⟩ := h
  refine ⟨⟨pg.ne_ tm.1 (by decide), pg.ne_ q.1 (by decide), pg.ne_ pt.1 (by decide), pg.ne_ v (by decide), pg.ne_ c (by decide), pg.ne_ l (by decide)⟩,
    ⟨tm.1.ne_ q.1 (by decide), tm.1.ne_ pt.1 (by decide), tm.1.ne_ v (by decide), tm.1.ne_ c (by decide), tm.1.ne_ l (by decide)⟩,
    ⟨q.1.ne_ pt.1 (by decide), q.1.ne_ v (by decide), q.1.ne_ c (by decide), q.1.ne_ l (by decide)⟩,
    ⟨pt.1.ne_ v (by decide), pt.1.ne_ c (by decide), pt.1.ne_ l (by decide)⟩, v.ne_ l (by decide), c.ne_ l (by decide)⟩
theorem RHp.cells (h : RHp w r d K Z x) : w.cell? ⟨r, 0, none⟩ = some (.int .u8 x.buf) ∧ w.cell? ⟨r, 1, none⟩ = some (.pointer (some ⟨K.t, 0, none⟩)) ∧ w.cell? ⟨r, 2, none⟩ = some (.pointer (some ⟨K.q, 0, none⟩)) ∧ w.cell? ⟨r, 3, none⟩ = some (.pointer (some ⟨K.p, 0, none⟩)) ∧
    w.cell? ⟨r, 4, none⟩ = some (.pointer (some ⟨K.v, 0, none⟩)) ∧ w.cell? ⟨r, 5, none⟩ = some (.pointer (some ⟨K.c, 0, none⟩)) ∧ w.cell? ⟨r, 6, none⟩ = some (.pointer (some ⟨K.l, 0, none⟩)) ∧ w.cell? ⟨r, 7, none⟩ = some (.int .i64 x.now) :=
  ⟨h.pg.cell 0, h.pg.cell 1, h.pg.cell 2, h.pg.cell 3, h.pg.cell 4, h.pg.cell 5, h.pg.cell 6, h.pg.cell 7⟩
theorem RHp.vtm (h : RHp w r d K Z x) {s : Tm} (h' : RTM w' K.t s) (k : Kp [K.t] w w') : RHp w' r d K Z { x with tm := s } := by
  obtain ⟨⟨a1, a2, a3, a4, a5, a6⟩, ⟨b1, b2, b3, b4, b5⟩, _⟩ := h.nes
  exact ⟨h.pg.kp k (by simpa using a1), h', h.q.kp k (by simpa using b1.symm), h.pt.kp k (by simpa using b2.symm), h.v.kp k (by simpa using b3.symm), h.c.kp k (by simpa using b4.symm), h.l.kp k (by simpa using b5.symm), h.ne⟩
theorem RHp.vq (h : RHp w r d K Z x) {s : Iq} (h' : RQ w' K.q s) (k : Kp [K.q] w w') : RHp w' r d K Z { x with q := s } := by
  obtain ⟨⟨a1, a2, a3, a4, a5, a6⟩, ⟨b1, b2, b3, b4, b5⟩, ⟨c1, c2, c3, c4⟩, _⟩ := h.nes
  exact ⟨h.pg.kp k (by simpa using a2), ⟨h.tm.1.kp k (by simpa using b1), h.tm.2⟩, h', h.pt.kp k (by simpa using c1.symm), h.v.kp k (by simpa using c2.symm), h.c.kp k (by simpa using c3.symm), h.l.kp k (by simpa using c4.symm), h.ne⟩
theorem RHp.vpt (h : RHp w r d K Z x) {s : Pt} {t : Nat} (h' : RP w' K.p Z.A3 d.np Z.c3 t s) (k : Kp [K.p] w w') : RHp w' r d K Z { x with pt := s, tp := t } := by
  obtain ⟨⟨a1, a2, a3, a4, a5, a6⟩, ⟨b1, b2, b3, b4, b5⟩, ⟨c1, c2, c3, c4⟩, ⟨d1, d2, d3⟩, _⟩ := h.nes
  exact ⟨h.pg.kp k (by simpa using a3), ⟨h.tm.1.kp k (by simpa using b2), h.tm.2⟩, h.q.kp k (by simpa using c1), h', h.v.kp k (by simpa using d1.symm), h.c.kp k (by simpa using d2.symm), h.l.kp k (by simpa using d3.symm), h.ne⟩
theorem RHp.vv (h : RHp w r d K Z x) {t : Nat} (h' : Blk w' K.v 106 (rfC Z.A1 d.nv Z.c1 t)) (k : Kp [K.v] w w') : RHp w' r d K Z { x with tv := t } := by
  obtain ⟨⟨a1, a2, a3, a4, a5, a6⟩, ⟨b1, b2, b3, b4, b5⟩, ⟨c1, c2, c3, c4⟩, ⟨d1, d2, d3⟩, e1, e2⟩ := h.nes
  exact ⟨h.pg.kp k (by simpa using a4), ⟨h.tm.1.kp k (by simpa using b3), h.tm.2⟩, h.q.kp k (by simpa using c2), h.pt.kp k (by simpa using d1), h', h.c.kp k (by simpa using h.ne.symm), h.l.kp k (by simpa using e1.symm), h.ne⟩
theorem RHp.vc (h : RHp w r d K Z x) {t : Nat} (h' : Blk w' K.c 106 (rfC Z.A2 d.nc Z.c2 t)) (k : Kp [K.c] w w') : RHp w' r d K Z { x with tc := t } := by
  obtain ⟨⟨a1, a2, a3, a4, a5, a6⟩, ⟨b1, b2, b3, b4, b5⟩, ⟨c1, c2, c3, c4⟩, ⟨d1, d2, d3⟩, e1, e2⟩ := h.nes
  exact ⟨h.pg.kp k (by simpa using a5), ⟨h.tm.1.kp k (by simpa using b4), h.tm.2⟩, h.q.kp k (by simpa using c3), h.pt.kp k (by simpa using d2), h.v.kp k (by simpa using h.ne), h', h.l.kp k (by simpa using e2.symm), h.ne⟩
theorem RHp.vl (h : RHp w r d K Z x) {s : Nat} {ro : Bool} (h' : Blk w' K.l 108 (rlC Z.A d.n Z.c s ro)) (k : Kp [K.l] w w') : RHp w' r d K Z { x with s := s, ro := ro } := by
  obtain ⟨⟨a1, a2, a3, a4, a5, a6⟩, ⟨b1, b2, b3, b4, b5⟩, ⟨c1, c2, c3, c4⟩, ⟨d1, d2, d3⟩, e1, e2⟩ := h.nes
  exact ⟨h.pg.kp k (by simpa using a6), ⟨h.tm.1.kp k (by simpa using b5), h.tm.2⟩, h.q.kp k (by simpa using c4), h.pt.kp k (by simpa using d3), h.v.kp k (by simpa using e1), h.c.kp k (by simpa using e2), h', h.ne⟩
/-- The page's own block. -/
theorem RHp.vpg (h : RHp w r d K Z x) (i : Nat) (u : Value) {y : Hp} (e : (rhC K x).setIfInBounds i u = rhC K y) (e1 : y.tm = x.tm) (e2 : y.q = x.q) (e3 : y.pt = x.pt ∧ y.tp = x.tp) (e4 : y.tv = x.tv) (e5 : y.tc = x.tc) (e6 : y.s = x.s ∧ y.ro = x.ro) :
    RHp (w.setCell ⟨r, i, none⟩ u) r d K Z y ∧ Kp [r] w (w.setCell ⟨r, i, none⟩ u) := by
  have k : Kp [r] w (w.setCell ⟨r, i, none⟩ u) := (Kp.refl _ _).setCell (.inl (by simp)) _
  obtain ⟨⟨a1, a2, a3, a4, a5, a6⟩, _⟩ := h.nes
  refine ⟨⟨by rw [← e]; exact h.pg.set_ i u, ?_, ?_, ?_, ?_, ?_, ?_, h.ne⟩, k⟩
  · rw [e1]; exact ⟨h.tm.1.kp k (by simpa using a1.symm), h.tm.2⟩
  · rw [e2]; exact h.q.kp k (by simpa using a2.symm)
  · rw [e3.1, e3.2]; exact h.pt.kp k (by simpa using a3.symm)
  · rw [e4]; exact h.v.kp k (by simpa using a4.symm)
  · rw [e5]; exact h.c.kp k (by simpa using a5.symm)
  · rw [e6.1, e6.2]; exact h.l.kp k (by simpa using a6.symm)
theorem RHp.vbuf (h : RHp w r d K Z x) (u : Int) : RHp (w.setCell ⟨r, 0, none⟩ (.int .u8 u)) r d K Z { x with buf := u } ∧ Kp [r] w (w.setCell ⟨r, 0, none⟩ (.int .u8 u)) := h.vpg 0 _ rfl rfl rfl ⟨rfl, rfl⟩ rfl rfl ⟨rfl, rfl⟩
theorem RHp.vnow (h : RHp w r d K Z x) (u : Int) : RHp (w.setCell ⟨r, 7, none⟩ (.int .i64 u)) r d K Z { x with now := u } ∧ Kp [r] w (w.setCell ⟨r, 7, none⟩ (.int .i64 u)) := h.vpg 7 _ rfl rfl rfl ⟨rfl, rfl⟩ rfl rfl ⟨rfl, rfl⟩
end
/-- What a Next of the reference's feed leaves. -/
def RfR (v : Value) (g n c t : Nat) (A : Option Addr) (w : World) (e : Ending) (w' : World) : Prop := e = .returned v ∧ Blk w' g 106 (rfC A n c t) ∧ Kp [g] w w'
set_option maxHeartbeats 2000000 in
theorem rfnext_any {w : World} {g n c t : Nat} {A : Option Addr} {z : Nat → Int} (h : Blk w g 106 (rfC A n c t)) (R : IRow w .u8 A n z) (hn : n ≤ 140737488355328) (ht : t ≤ 1000000000) :
    Calls Tryz.prog 78 #[.pointer (some ⟨g, 0, none⟩)] w (RfR (.int .u8 (peekI (n - t) (fun j => z (t + j)) 0)) g n c (t + 1) A w) := by
  have H := Lib.hid h
  have HR := Lib.hid R
  clear h R
  obtain ⟨b, hb⟩ : ∃ b, peekI (n - t) (fun j => z (t + j)) 0 = b := ⟨_, rfl⟩
  rw [hb]
  have HB := Lib.hid hb
  clear hb
  go_enter Tryz.func78, Tryz.ntmps78
  go_wp2_with fail
  refine (rppeek_any (H.out.cell 0) (H.out.cell 1) HR.out hn ht).mono ?_
  rw [HB.out]
  rintro e w1 ⟨rfl, k1⟩
  have H1 := Lib.hid (H.out.kp k1 (by simp))
  have c1 : w1.cell? ⟨g, 1, none⟩ = some (.int .i64 t) := H1.out.cell 1
  have f1 := H1.out.frozen 1
  go_wp2
  go_ret
  have hb2 := H1.out.set_ 1 (.int .i64 ((t : Int) + 1))
  exact ⟨rfl, hb2, (k1.mono (by simp)).trans ((Kp.refl [g] w1).setCell (.inl (by simp)) _) (by simp)⟩
end Go.Proofs.YtngfmofjonleeaaGreat
namespace Go.Proofs.YtngfmofjonleeaaGreat
open Go.RowKit
set_option linter.unusedVariables false
set_option linter.unusedSimpArgs false
set_option maxRecDepth 100000
def RhR (v : Value) (r : Nat) (d : Hd) (J : Rr) (Z : Rz) (y : Hp) (L : List Nat) (w : World) (e : Ending) (w' : World) : Prop := e = .returned v ∧ RHp w' r d J Z y ∧ Kp L w w'
def Rr.all (J : Rr) (r : Nat) : List Nat := [r, J.t, J.q, J.p, J.v, J.c, J.l]
/-- The edges lie in a block that isn't of the page's own. -/
def EOff (Z : Rz) (n : Nat) (J : Rr) : Prop := ∀ ad, Z.A = some ad → 0 < n → ad.block ∉ [J.l]
section
variable {w : World} {r : Nat} {d : Hd} {J : Rr} {Z : Rz} {x : Hp}
theorem rq_due {s : Iq} (h : RQ w r s) : RQ (w.setCell ⟨r, 1, none⟩ (.bool true)) r ⟨s.d, true⟩ ∧ Kp [r] w (w.setCell ⟨r, 1, none⟩ (.bool true)) := ⟨⟨h.1.set_ 1 _, h.2⟩, (Kp.refl _ _).setCell (.inl (by simp)) _⟩
set_option maxHeartbeats 4000000 in
theorem rhto_any (h : RHp w r d J Z x) (hok : x.ok d) (hG : Good d.n d.es) (RE : ERow w Z.A d.n d.es) (hE : ∀ w' : World, Kp (J.all r) w w' → ERow w' Z.A d.n d.es) (hA : EOff Z d.n J) (t : Int) (ht : t ≤ 9223372036854775807) :
    Calls Tryz.prog 70 #[.pointer (some ⟨r, 0, none⟩), .int .i64 t] w (RhR (.tuple #[]) r d J Z (x.to d t) (J.all r) w) := by
  have n0 : 0 ≤ x.now := hok.2.2.2.2.2
  have hs : x.s ≤ d.n := hok.2.1
  obtain ⟨c0, c1, c2, c3, c4, c5, c6, c7⟩ := h.cells
  have H := Lib.hid h
  have HE := Lib.hid hE
  have HA := Lib.hid hA
  have HG := Lib.hid hG
  clear h RE hE hA hG hok
  by_cases hle : t ≤ x.now
  · have e : x.to d t = x := by unfold Hp.to; rw [if_pos hle]
    rw [e]
    clear e
    go_enter Tryz.func70, Tryz.ntmps70
    go_wp2
    first | go_end0 | refine bodyPost_ret (results_none rfl _ _ _) rfl ?_
    exact ⟨rfl, H.out, Kp.refl _ _⟩
  · have hlt : x.now < t := by omega
    have e : x.to d t = { x with tm := x.tm.goN (t - x.now).toNat, q := if 0 < x.tm.overN (t - x.now).toNat then ⟨x.q.d, true⟩ else x.q, s := pass d.es d.n t x.s, ro := roseTo d.es x.ro x.s (pass d.es d.n t x.s - x.s), now := t } := by unfold Hp.to; rw [if_neg hle]
    have hd : t - x.now ≤ 9223372036854775807 := by omega
    have hwr : IntKind.i64.wrap (t - x.now) = t - x.now := IntWalk.i64_in _ (by omega)
    obtain ⟨N, hN⟩ : ∃ N, x.tm.overN (t - x.now).toNat = N := ⟨_, rfl⟩
    rw [hN] at e
    have HN := Lib.hid hN
    have HEQ := Lib.hid e
    clear e hN
    go_enter Tryz.func70, Tryz.ntmps70
    go_wp2_with fail
    refine rg_begin (S := fun w' => w'.cell? ⟨r, 1, none⟩ = some (.pointer (some ⟨J.t, 0, none⟩)) ∧ w'.cell? ⟨r, 7, none⟩ = some (.int .i64 x.now)) 12 #[false, false, false, false, false, false, false, false, false, false, false, false] (by kernel_rfl) (by kernel_rfl) (by kernel_rfl) ?_ (fun hHeld => ?_)
    · exact ⟨c1, c7⟩
    refine rg_take (i := 0) (d := some 10) (l := #[true, false, false, false, false, false, false, false, false, false, false, false]) (fuel := 11) (v := ?_) rfl (by kernel_rfl) (by kernel_rfl) (by kernel_rfl) (by kernel_rfl) (by kernel_rfl) (fun _ _ _ h => h) (by kernel_rfl) ?_ (by assumption) ?_
    rotate_left 1
    · (intro wS hSw; (try dsimp only at hSw); go_simp; try with_reducible rfl)
    try simp only [Act.put, List.setIfInBounds_toArray, List.set_cons_zero, List.set_cons_succ]
    refine rg_take (i := 1) (d := some 11) (l := #[true, true, false, false, false, false, false, false, false, false, false, false]) (fuel := 10) (v := ?_) rfl (by kernel_rfl) (by kernel_rfl) (by kernel_rfl) (by kernel_rfl) (by kernel_rfl) (fun _ _ _ h => h) (by kernel_rfl) ?_ (by assumption) ?_
    rotate_left 1
    · (intro wS hSw; (try dsimp only at hSw); go_simp; try with_reducible rfl)
    try simp only [Act.put, List.setIfInBounds_toArray, List.set_cons_zero, List.set_cons_succ]
    refine rg_take (i := 2) (d := some 12) (l := #[true, true, true, false, false, false, false, false, false, false, false, false]) (fuel := 9) (v := ?_) rfl (by kernel_rfl) (by kernel_rfl) (by kernel_rfl) (by kernel_rfl) (by kernel_rfl) (fun _ _ _ h => h) (by kernel_rfl) ?_ (by assumption) ?_
    rotate_left 1
    · (intro wS hSw; (try dsimp only at hSw); go_simp; try with_reducible rfl)
    try simp only [Act.put, List.setIfInBounds_toArray, List.set_cons_zero, List.set_cons_succ]
    refine rg_take (i := 3) (d := some 13) (l := #[true, true, true, true, false, false, false, false, false, false, false, false]) (fuel := 8) (v := ?_) rfl (by kernel_rfl) (by kernel_rfl) (by kernel_rfl) (by kernel_rfl) (by kernel_rfl) (fun _ _ _ h => h) (by kernel_rfl) ?_ (by assumption) ?_
    rotate_left 1
    · (intro wS hSw; (try dsimp only at hSw); go_simp; try with_reducible rfl)
    try simp only [Act.put, List.setIfInBounds_toArray, List.set_cons_zero, List.set_cons_succ]
    refine rg_take (i := 4) (d := some 14) (l := #[true, true, true, true, true, false, false, false, false, false, false, false]) (fuel := 7) (v := ?_) rfl (by kernel_rfl) (by kernel_rfl) (by kernel_rfl) (by kernel_rfl) (by kernel_rfl) (fun _ _ _ h => h) (by kernel_rfl) ?_ (by assumption) ?_
    rotate_left 1
    · (intro wS hSw; (try dsimp only at hSw); go_simp; try with_reducible rfl)
    try simp only [Act.put, List.setIfInBounds_toArray, List.set_cons_zero, List.set_cons_succ]
    refine rg_take (i := 5) (d := some 15) (l := #[true, true, true, true, true, true, false, false, false, false, false, false]) (fuel := 6) (v := ?_) rfl (by kernel_rfl) (by kernel_rfl) (by kernel_rfl) (by kernel_rfl) (by kernel_rfl) (fun _ _ _ h => h) (by kernel_rfl) ?_ (by assumption) ?_
    rotate_left 1
    · (intro wS hSw; (try dsimp only at hSw); go_simp; try with_reducible rfl)
    try simp only [Act.put, List.setIfInBounds_toArray, List.set_cons_zero, List.set_cons_succ]
    refine rg_take (i := 6) (d := some 16) (l := #[true, true, true, true, true, true, true, false, false, false, false, false]) (fuel := 5) (v := ?_) rfl (by kernel_rfl) (by kernel_rfl) (by kernel_rfl) (by kernel_rfl) (by kernel_rfl) (fun _ _ _ h => h) (by kernel_rfl) ?_ (by assumption) ?_
    rotate_left 1
    · (intro wS hSw; (try dsimp only at hSw); go_simp; try with_reducible rfl)
    try simp only [Act.put, List.setIfInBounds_toArray, List.set_cons_zero, List.set_cons_succ]
    refine rg_take (i := 7) (d := some 17) (l := #[true, true, true, true, true, true, true, true, false, false, false, false]) (fuel := 4) (v := ?_) rfl (by kernel_rfl) (by kernel_rfl) (by kernel_rfl) (by kernel_rfl) (by kernel_rfl) (fun _ _ _ h => h) (by kernel_rfl) ?_ (by assumption) ?_
    rotate_left 1
    · (intro wS hSw; (try dsimp only at hSw); go_simp; try with_reducible rfl)
    try simp only [Act.put, List.setIfInBounds_toArray, List.set_cons_zero, List.set_cons_succ]
    refine rg_take (i := 8) (d := some 18) (l := #[true, true, true, true, true, true, true, true, true, false, false, false]) (fuel := 3) (v := ?_) rfl (by kernel_rfl) (by kernel_rfl) (by kernel_rfl) (by kernel_rfl) (by kernel_rfl) (fun _ _ _ h => h) (by kernel_rfl) ?_ (by assumption) ?_
    rotate_left 1
    · (intro wS hSw; (try dsimp only at hSw); go_simp; try with_reducible rfl)
    try simp only [Act.put, List.setIfInBounds_toArray, List.set_cons_zero, List.set_cons_succ]
    refine rg_take (i := 9) (d := some 19) (l := #[true, true, true, true, true, true, true, true, true, true, false, false]) (fuel := 2) (v := ?_) rfl (by kernel_rfl) (by kernel_rfl) (by kernel_rfl) (by kernel_rfl) (by kernel_rfl) (fun _ _ _ h => h) (by kernel_rfl) ?_ (by assumption) ?_
    rotate_left 1
    · (intro wS hSw; (try dsimp only at hSw); go_simp; try with_reducible rfl)
    try simp only [Act.put, List.setIfInBounds_toArray, List.set_cons_zero, List.set_cons_succ]
    try rw [hwr]
    refine rg_next (i := 10) (l := #[true, true, true, true, true, true, true, true, true, true, true, false]) (fuel := 1) (by kernel_rfl) rfl (by kernel_rfl) (by kernel_rfl) (fun K hK => ?_)
    go_simp
    (go_at_call 107)
    refine (rtgo_any (H.out.kp0 (Kp.refl _ _).drew).tm (t - x.now) hd).mono ?_
    rw [HN.out]
    rintro e w1 ⟨rfl, y1, y2⟩
    replace y2 : Kp [J.t] w w1 := ((Kp.refl [J.t] w).drew).trans y2 (by simp)
    have H1 := Lib.hid (H.out.vtm y1 y2)
    have K1 : Hid (Kp (J.all r) w w1) := Lib.hid (y2.mono (by simp [Rr.all]))
    have z1 := H1.out.cells.2.1
    have z7 := H1.out.cells.2.2.2.2.2.2.2
    dsimp only at z7
    clear y1 y2 c0 c1 c2 c3 c4 c5 c6 c7 H
    first | (refine hK.out _ _ ?_ (fun hHeld => ?_)) | (go_wp2_with fail; refine hK.out _ _ ?_ (fun hHeld => ?_))
    · (try dsimp only); exact ⟨z1, z7⟩
    clear hK K
    try simp only [Act.put, List.setIfInBounds_toArray, List.set_cons_zero, List.set_cons_succ]
    refine rg_take (i := 11) (d := some 21) (l := #[true, true, true, true, true, true, true, true, true, true, true, true]) (fuel := 0) (v := ?_) rfl (by kernel_rfl) (by kernel_rfl) (by kernel_rfl) (by kernel_rfl) (by kernel_rfl) (fun _ _ _ h => h) (by kernel_rfl) ?_ (by assumption) ?_
    rotate_left 1
    · (intro wS hSw; (try dsimp only at hSw); go_simp; try with_reducible rfl)
    try simp only [Act.put, List.setIfInBounds_toArray, List.set_cons_zero, List.set_cons_succ]
    refine wpAnyH_done (by kernel_rfl) ?_ _
    clear hHeld z1 z7
    obtain ⟨y, hy⟩ : ∃ y : Hp, { x with tm := x.tm.goN (t - x.now).toNat, q := if 0 < N then ⟨x.q.d, true⟩ else x.q } = y := ⟨_, rfl⟩
    have HY := Lib.hid hy
    have hys : y.s = x.s := by rw [← hy]
    have fin : ∀ w2, RHp w2 r d J Z y → Kp (J.all r) w w2 → Calls Tryz.prog 108 #[.pointer (some ⟨J.l, 0, none⟩), .int .i64 t] w2 fun e w3 =>
        e = .returned (.tuple #[]) ∧ RHp w3 r d J Z { y with s := pass d.es d.n t y.s, ro := roseTo d.es y.ro y.s (pass d.es d.n t y.s - y.s) } ∧ Kp (J.all r) w w3 := fun w2 h2 k2 => by
      refine (rto_any h2.l (HE.out _ k2) HA.out (by rw [hys]; exact hs) HG.out.1 t).mono ?_
      rintro e w3 ⟨rfl, l3, k3⟩
      exact ⟨rfl, h2.vl l3 k3, k2.trans (k3.mono (M := J.all r) (by simp [Rr.all])) (fun z hz => .inl hz)⟩
    have FIN := Lib.hid fin
    clear hy fin
    by_cases h0 : 0 < N
    · have hp : (0 : Int) < (N : Int) := by omega
      obtain ⟨d0, d1, d2, d3, d4, d5, d6, d7⟩ := H1.out.cells
      have q1 : w1.cell? ⟨J.q, 1, none⟩ = some (.bool x.q.due) := H1.out.q.1.cell 1
      have f1 := H1.out.q.1.frozen 1
      obtain ⟨y1, y2⟩ := rq_due H1.out.q
      have H2 : Hid (RHp (w1.setCell ⟨J.q, 1, none⟩ (.bool true)) r d J Z y) := Lib.hid (by have := H1.out.vq y1 y2; rw [← HY.out, if_pos h0]; exact this)
      have K2 : Hid (Kp (J.all r) w (w1.setCell ⟨J.q, 1, none⟩ (.bool true))) := Lib.hid (K1.out.trans (y2.mono (M := J.all r) (by simp [Rr.all])) (fun z hz => .inl hz))
      obtain ⟨d0', d1', d2', d3', d4', d5', d6', d7'⟩ := H2.out.cells
      clear y1 y2
      go_wp2_with fail
      refine (FIN.out _ H2.out K2.out).mono ?_
      rintro e w3 ⟨rfl, h3, k3⟩
      obtain ⟨r1, r2⟩ := h3.vnow t
      have k0 : w3.cell? ⟨r, 7, none⟩ = _ := h3.cells.2.2.2.2.2.2.2
      have g0 := h3.pg.frozen 7
      have R1 := Lib.hid r1
      have R2 := Lib.hid (k3.trans (r2.mono (M := J.all r) (by simp [Rr.all])) (fun z hz => .inl hz))
      clear h3 k3 r1 r2 d0 d1 d2 d3 d4 d5 d6 d7 d0' d1' d2' d3' d4' d5' d6' d7' q1 f1
      go_wp2
      first | go_end0 | refine bodyPost_ret (results_none rfl _ _ _) rfl ?_
      refine ⟨rfl, ?_, R2.out⟩
      rw [HEQ.out]
      have := HY.out
      subst this
      exact R1.out
    · have hp : ¬ (0 : Int) < (N : Int) := by omega
      have H2 : Hid (RHp w1 r d J Z y) := Lib.hid (by have := H1.out; rw [← HY.out, if_neg h0]; exact this)
      obtain ⟨d0, d1, d2, d3, d4, d5, d6, d7⟩ := H1.out.cells
      go_wp2_with fail
      refine (FIN.out _ H2.out K1.out).mono ?_
      rintro e w3 ⟨rfl, h3, k3⟩
      obtain ⟨r1, r2⟩ := h3.vnow t
      have k0 : w3.cell? ⟨r, 7, none⟩ = _ := h3.cells.2.2.2.2.2.2.2
      have g0 := h3.pg.frozen 7
      have R1 := Lib.hid r1
      have R2 := Lib.hid (k3.trans (r2.mono (M := J.all r) (by simp [Rr.all])) (fun z hz => .inl hz))
      clear h3 k3 r1 r2 d0 d1 d2 d3 d4 d5 d6 d7
      go_wp2
      first | go_end0 | refine bodyPost_ret (results_none rfl _ _ _) rfl ?_
      refine ⟨rfl, ?_, R2.out⟩
      rw [HEQ.out]
      have := HY.out
      subst this
      exact R1.out
end
end Go.Proofs.YtngfmofjonleeaaGreat
namespace Go.Proofs.YtngfmofjonleeaaGreat
open Go.RowKit
set_option linter.unusedVariables false
set_option linter.unusedSimpArgs false
set_option maxRecDepth 100000
section
variable {w : World} {r : Nat} {d : Hd} {J : Rr} {Z : Rz} {x : Hp}
theorem rhup_v (h : RHp w r d J Z x) (hs : x.s ≤ d.n) (hn : d.n ≤ 1000) (R : ERow w Z.A d.n d.es) (l : Int) {u : Bool} (e : upTo d.es x.s l = u) :
    Calls Tryz.prog 82 #[.pointer (some ⟨J.l, 0, none⟩), .int .u8 l] w fun e w' => e = .returned (.bool u) ∧ w = w' := e ▸ rup_any h.l R hs hn l
end
end Go.Proofs.YtngfmofjonleeaaGreat
namespace Go.Proofs.YtngfmofjonleeaaGreat
open Go.RowKit
set_option linter.unusedVariables false
set_option linter.unusedSimpArgs false
set_option maxRecDepth 100000
theorem rat_v {o a : Int} {w : World} (o0 : 0 ≤ o) (o1 : o ≤ 65535) (e : plA o = a) : Calls Tryz.prog 72 #[.int .u16 o] w fun e w' => e = .returned (.int .u32 a) ∧ w = w' := by
  rw [← e]
  unfold plA
  clear e
  go_enter Tryz.func72, Tryz.ntmps72
  go_wp2
  go_ret
  exact ⟨by simp, rfl⟩
theorem rwhere_v {a k : Int} {w : World} (a0 : 0 ≤ a) (a1 : a ≤ 4294967295) (e : whereI a = k) : Calls Tryz.prog 38 #[.int .u32 a] w fun e w' => e = .returned (.int .u8 k) ∧ Below w.heap.size w w' := e ▸ rwhere_any a w a0 a1
theorem rreg_v {a k : Int} {w : World} (a0 : 0 ≤ a) (a1 : a ≤ 4294967295) (e : regI a = k) : Calls Tryz.prog 74 #[.int .u32 a] w fun e w' => e = .returned (.int .i64 k) ∧ Below w.heap.size w w' := e ▸ rreg_any a w a0 a1
section
variable {w : World} {r : Nat} {d : Hd} {J : Rr} {Z : Rz} {x : Hp}
set_option maxHeartbeats 4000000 in
theorem rhwrite5 (h : RHp w r d J Z x) (off : Int) (o0 : 0 ≤ off) (o1 : off ≤ 65535) (u : Int) (u0 : 0 ≤ u) (u1 : u ≤ 255) (hk : whereI (plA off) = 5) :
    Calls Tryz.prog 40 #[.pointer (some ⟨r, 0, none⟩), .int .u16 off, .int .u8 u] w (RhR (.tuple #[]) r d J Z { x with buf := u } (J.all r) w) := by
    obtain ⟨a0, a1⟩ := plA_bd off o0
    have H := Lib.hid h
    have HK := Lib.hid hk
    clear h hk
    go_enter Tryz.func40, Tryz.ntmps40
    go_wp2_with fail
    refine (rat_v o0 o1 rfl).mono ?_
    rintro e w' ⟨rfl, rfl⟩
    go_wp2_with fail
    refine (rwhere_v a0 a1 HK.out).mono ?_
    rintro e w1 ⟨rfl, b1⟩
    have H1 := Lib.hid (H.out.keep b1)
    have K1 : Hid (Kp [] w w1) := Lib.hid (Kp.of_below b1)
    clear b1 H
    have z0 := H1.out.cells.1
    have g0 := H1.out.pg.frozen 0
    obtain ⟨r1, r2⟩ := H1.out.vbuf u
    have H2 := Lib.hid r1
    have K2 : Hid (Kp (J.all r) w (w1.setCell ⟨r, 0, none⟩ (.int .u8 u))) := Lib.hid ((K1.out.mono (by simp)).trans (r2.mono (M := J.all r) (by simp [Rr.all])) (fun z hz => .inl hz))
    obtain ⟨e0, e1, e2, e3, e4, e5, e6, e7⟩ := H2.out.cells
    clear r1 r2
    go_wp2_with fail
    first | go_end0 | refine bodyPost_ret (results_none rfl _ _ _) rfl ?_
    exact ⟨rfl, H2.out, K2.out⟩
set_option maxHeartbeats 4000000 in
theorem rhwrite6 (h : RHp w r d J Z x) (off : Int) (o0 : 0 ≤ off) (o1 : off ≤ 65535) (u : Int) (u0 : 0 ≤ u) (u1 : u ≤ 255) (hk : whereI (plA off) = 6) :
    Calls Tryz.prog 40 #[.pointer (some ⟨r, 0, none⟩), .int .u16 off, .int .u8 u] w (RhR (.tuple #[]) r d J Z { x with tm := x.tm.wr (regI (plA off)) u, buf := u } (J.all r) w) := by
    obtain ⟨a0, a1⟩ := plA_bd off o0
    have H := Lib.hid h
    have HK := Lib.hid hk
    clear h hk
    go_enter Tryz.func40, Tryz.ntmps40
    go_wp2_with fail
    refine (rat_v o0 o1 rfl).mono ?_
    rintro e w' ⟨rfl, rfl⟩
    go_wp2_with fail
    refine (rwhere_v a0 a1 HK.out).mono ?_
    rintro e w1 ⟨rfl, b1⟩
    have H1 := Lib.hid (H.out.keep b1)
    have K1 : Hid (Kp [] w w1) := Lib.hid (Kp.of_below b1)
    clear b1 H
    have z0 := H1.out.cells.1
    have g0 := H1.out.pg.frozen 0
    obtain ⟨r1, r2⟩ := H1.out.vbuf u
    have H2 := Lib.hid r1
    have K2 : Hid (Kp (J.all r) w (w1.setCell ⟨r, 0, none⟩ (.int .u8 u))) := Lib.hid ((K1.out.mono (by simp)).trans (r2.mono (M := J.all r) (by simp [Rr.all])) (fun z hz => .inl hz))
    obtain ⟨e0, e1, e2, e3, e4, e5, e6, e7⟩ := H2.out.cells
    clear r1 r2
    go_wp2_with fail
    clear z0 g0
    generalize World.setCell _ _ _ = w2 at *
    refine rg_begin (S := fun w' => w'.cell? ⟨r, 1, none⟩ = some (.pointer (some ⟨J.t, 0, none⟩))) 8 #[false, false, false, false, false, false, false, false] (by kernel_rfl) (by kernel_rfl) (by kernel_rfl) ?_ (fun hHeld => ?_)
    · exact e1
    refine rg_take (i := 0) (d := some 32) (l := #[true, false, false, false, false, false, false, false]) (fuel := 7) (v := ?_) rfl (by kernel_rfl) (by kernel_rfl) (by kernel_rfl) (by kernel_rfl) (by kernel_rfl) (fun _ _ _ h => h) (by kernel_rfl) ?_ (by assumption) ?_
    rotate_left 1
    · (intro wS hSw; (try dsimp only at hSw); go_simp; try with_reducible rfl)
    try simp only [Act.put, List.setIfInBounds_toArray, List.set_cons_zero, List.set_cons_succ]
    refine rg_take (i := 1) (d := some 33) (l := #[true, true, false, false, false, false, false, false]) (fuel := 6) (v := ?_) rfl (by kernel_rfl) (by kernel_rfl) (by kernel_rfl) (by kernel_rfl) (by kernel_rfl) (fun _ _ _ h => h) (by kernel_rfl) ?_ (by assumption) ?_
    rotate_left 1
    · (intro wS hSw; (try dsimp only at hSw); go_simp; try with_reducible rfl)
    try simp only [Act.put, List.setIfInBounds_toArray, List.set_cons_zero, List.set_cons_succ]
    refine rg_take (i := 2) (d := some 34) (l := #[true, true, true, false, false, false, false, false]) (fuel := 5) (v := ?_) rfl (by kernel_rfl) (by kernel_rfl) (by kernel_rfl) (by kernel_rfl) (by kernel_rfl) (fun _ _ _ h => h) (by kernel_rfl) ?_ (by assumption) ?_
    rotate_left 1
    · (intro wS hSw; (try dsimp only at hSw); go_simp; try with_reducible rfl)
    try simp only [Act.put, List.setIfInBounds_toArray, List.set_cons_zero, List.set_cons_succ]
    refine rg_take (i := 3) (d := some 35) (l := #[true, true, true, true, false, false, false, false]) (fuel := 4) (v := ?_) rfl (by kernel_rfl) (by kernel_rfl) (by kernel_rfl) (by kernel_rfl) (by kernel_rfl) (fun _ _ _ h => h) (by kernel_rfl) ?_ (by assumption) ?_
    rotate_left 1
    · (intro wS hSw; (try dsimp only at hSw); go_simp; try with_reducible rfl)
    try simp only [Act.put, List.setIfInBounds_toArray, List.set_cons_zero, List.set_cons_succ]
    refine rg_take (i := 4) (d := some 36) (l := #[true, true, true, true, true, false, false, false]) (fuel := 3) (v := ?_) rfl (by kernel_rfl) (by kernel_rfl) (by kernel_rfl) (by kernel_rfl) (by kernel_rfl) (fun _ _ _ h => h) (by kernel_rfl) ?_ (by assumption) ?_
    rotate_left 1
    · (intro wS hSw; (try dsimp only at hSw); go_simp; try with_reducible rfl)
    try simp only [Act.put, List.setIfInBounds_toArray, List.set_cons_zero, List.set_cons_succ]
    refine rg_take (i := 6) (d := some 38) (l := #[true, true, true, true, true, false, true, false]) (fuel := 2) (v := ?_) rfl (by kernel_rfl) (by kernel_rfl) (by kernel_rfl) (by kernel_rfl) (by kernel_rfl) (fun _ _ _ h => h) (by kernel_rfl) ?_ (by assumption) ?_
    rotate_left 1
    · (intro wS hSw; (try dsimp only at hSw); go_simp; try with_reducible rfl)
    try simp only [Act.put, List.setIfInBounds_toArray, List.set_cons_zero, List.set_cons_succ]
    refine rg_next (i := 5) (l := #[true, true, true, true, true, true, true, false]) (fuel := 1) (by kernel_rfl) rfl (by kernel_rfl) (by kernel_rfl) (fun K hK => ?_)
    go_simp
    (go_at_call 74)
    refine (rreg_v a0 a1 rfl).mono ?_
    rintro e w3 ⟨rfl, b3⟩
    have H3 := Lib.hid ((H2.out.kp0 (Kp.refl _ _).drew).keep b3)
    have K3 : Hid (Kp (J.all r) w w3) := Lib.hid (K2.out.drew.trans (Kp.of_below (L := []) b3) (by simp))
    clear b3 H2 K2 e0 e1 e2 e3 e4 e5 e6 e7
    obtain ⟨e0, e1, e2, e3, e4, e5, e6, e7⟩ := H3.out.cells
    first | (refine hK.out _ _ ?_ (fun hHeld => ?_)) | (go_wp2_with fail; refine hK.out _ _ ?_ (fun hHeld => ?_))
    · (try dsimp only); exact e1
    clear hK K
    try simp only [Act.put, List.setIfInBounds_toArray, List.set_cons_zero, List.set_cons_succ]
    refine rg_next (i := 7) (l := #[true, true, true, true, true, true, true, true]) (fuel := 0) (by kernel_rfl) rfl (by kernel_rfl) (by kernel_rfl) (fun K hK => ?_)
    go_simp
    (go_at_call 73)
    refine (rtwrite_any H3.out.tm (regI (plA off)) u u0 u1).mono ?_
    rintro e w4 ⟨rfl, y1, y2⟩
    have H4 := Lib.hid (H3.out.vtm y1 y2)
    have K4 : Hid (Kp (J.all r) w w4) := Lib.hid (K3.out.trans (y2.mono (M := J.all r) (by simp [Rr.all])) (fun z hz => .inl hz))
    clear y1 y2 e0 e1 e2 e3 e4 e5 e6 e7
    obtain ⟨e0, e1, e2, e3, e4, e5, e6, e7⟩ := H4.out.cells
    first | (refine hK.out _ _ ?_ (fun hHeld => ?_)) | (go_wp2_with fail; refine hK.out _ _ ?_ (fun hHeld => ?_))
    · (try dsimp only); exact e1
    clear hK K
    try simp only [Act.put, List.setIfInBounds_toArray, List.set_cons_zero, List.set_cons_succ]
    refine wpAnyH_done (by kernel_rfl) ?_ _
    go_wp2_with fail
    first | go_end0 | refine bodyPost_ret (results_none rfl _ _ _) rfl ?_
    exact ⟨rfl, H4.out, K4.out⟩
set_option maxHeartbeats 4000000 in
theorem rhwrite7 (h : RHp w r d J Z x) (off : Int) (o0 : 0 ≤ off) (o1 : off ≤ 65535) (u : Int) (u0 : 0 ≤ u) (u1 : u ≤ 255) (hk : whereI (plA off) = 7) :
    Calls Tryz.prog 40 #[.pointer (some ⟨r, 0, none⟩), .int .u16 off, .int .u8 u] w (RhR (.tuple #[]) r d J Z { x with pt := x.pt.wr u, buf := u } (J.all r) w) := by
    obtain ⟨a0, a1⟩ := plA_bd off o0
    have H := Lib.hid h
    have HK := Lib.hid hk
    clear h hk
    go_enter Tryz.func40, Tryz.ntmps40
    go_wp2_with fail
    refine (rat_v o0 o1 rfl).mono ?_
    rintro e w' ⟨rfl, rfl⟩
    go_wp2_with fail
    refine (rwhere_v a0 a1 HK.out).mono ?_
    rintro e w1 ⟨rfl, b1⟩
    have H1 := Lib.hid (H.out.keep b1)
    have K1 : Hid (Kp [] w w1) := Lib.hid (Kp.of_below b1)
    clear b1 H
    have z0 := H1.out.cells.1
    have g0 := H1.out.pg.frozen 0
    obtain ⟨r1, r2⟩ := H1.out.vbuf u
    have H2 := Lib.hid r1
    have K2 : Hid (Kp (J.all r) w (w1.setCell ⟨r, 0, none⟩ (.int .u8 u))) := Lib.hid ((K1.out.mono (by simp)).trans (r2.mono (M := J.all r) (by simp [Rr.all])) (fun z hz => .inl hz))
    obtain ⟨e0, e1, e2, e3, e4, e5, e6, e7⟩ := H2.out.cells
    clear r1 r2
    go_wp2_with fail
    clear z0 g0
    generalize World.setCell _ _ _ = w2 at *
    refine (rpwrite_any H2.out.pt u u0 u1).mono ?_
    rintro e w4 ⟨rfl, y1, y2⟩
    have H4 := Lib.hid (H2.out.vpt y1 y2)
    have K4 : Hid (Kp (J.all r) w w4) := Lib.hid (K2.out.trans (y2.mono (M := J.all r) (by simp [Rr.all])) (fun z hz => .inl hz))
    clear y1 y2 e0 e1 e2 e3 e4 e5 e6 e7
    go_wp2_with fail
    first | go_end0 | refine bodyPost_ret (results_none rfl _ _ _) rfl ?_
    exact ⟨rfl, H4.out, K4.out⟩
set_option maxHeartbeats 4000000 in
theorem rhwrite8 (h : RHp w r d J Z x) (off : Int) (o0 : 0 ≤ off) (o1 : off ≤ 65535) (u : Int) (u0 : 0 ≤ u) (u1 : u ≤ 255) (hk : whereI (plA off) = 8) :
    Calls Tryz.prog 40 #[.pointer (some ⟨r, 0, none⟩), .int .u16 off, .int .u8 u] w (RhR (.tuple #[]) r d J Z { x with q := x.q.wr (regI (plA off)) u, buf := u } (J.all r) w) := by
    obtain ⟨a0, a1⟩ := plA_bd off o0
    have H := Lib.hid h
    have HK := Lib.hid hk
    clear h hk
    go_enter Tryz.func40, Tryz.ntmps40
    go_wp2_with fail
    refine (rat_v o0 o1 rfl).mono ?_
    rintro e w' ⟨rfl, rfl⟩
    go_wp2_with fail
    refine (rwhere_v a0 a1 HK.out).mono ?_
    rintro e w1 ⟨rfl, b1⟩
    have H1 := Lib.hid (H.out.keep b1)
    have K1 : Hid (Kp [] w w1) := Lib.hid (Kp.of_below b1)
    clear b1 H
    have z0 := H1.out.cells.1
    have g0 := H1.out.pg.frozen 0
    obtain ⟨r1, r2⟩ := H1.out.vbuf u
    have H2 := Lib.hid r1
    have K2 : Hid (Kp (J.all r) w (w1.setCell ⟨r, 0, none⟩ (.int .u8 u))) := Lib.hid ((K1.out.mono (by simp)).trans (r2.mono (M := J.all r) (by simp [Rr.all])) (fun z hz => .inl hz))
    obtain ⟨e0, e1, e2, e3, e4, e5, e6, e7⟩ := H2.out.cells
    clear r1 r2
    go_wp2_with fail
    clear z0 g0
    generalize World.setCell _ _ _ = w2 at *
    refine rg_begin (S := fun w' => w'.cell? ⟨r, 2, none⟩ = some (.pointer (some ⟨J.q, 0, none⟩))) 8 #[false, false, false, false, false, false, false, false] (by kernel_rfl) (by kernel_rfl) (by kernel_rfl) ?_ (fun hHeld => ?_)
    · exact e2
    refine rg_take (i := 0) (d := some 50) (l := #[true, false, false, false, false, false, false, false]) (fuel := 7) (v := ?_) rfl (by kernel_rfl) (by kernel_rfl) (by kernel_rfl) (by kernel_rfl) (by kernel_rfl) (fun _ _ _ h => h) (by kernel_rfl) ?_ (by assumption) ?_
    rotate_left 1
    · (intro wS hSw; (try dsimp only at hSw); go_simp; try with_reducible rfl)
    try simp only [Act.put, List.setIfInBounds_toArray, List.set_cons_zero, List.set_cons_succ]
    refine rg_take (i := 1) (d := some 51) (l := #[true, true, false, false, false, false, false, false]) (fuel := 6) (v := ?_) rfl (by kernel_rfl) (by kernel_rfl) (by kernel_rfl) (by kernel_rfl) (by kernel_rfl) (fun _ _ _ h => h) (by kernel_rfl) ?_ (by assumption) ?_
    rotate_left 1
    · (intro wS hSw; (try dsimp only at hSw); go_simp; try with_reducible rfl)
    try simp only [Act.put, List.setIfInBounds_toArray, List.set_cons_zero, List.set_cons_succ]
    refine rg_take (i := 2) (d := some 52) (l := #[true, true, true, false, false, false, false, false]) (fuel := 5) (v := ?_) rfl (by kernel_rfl) (by kernel_rfl) (by kernel_rfl) (by kernel_rfl) (by kernel_rfl) (fun _ _ _ h => h) (by kernel_rfl) ?_ (by assumption) ?_
    rotate_left 1
    · (intro wS hSw; (try dsimp only at hSw); go_simp; try with_reducible rfl)
    try simp only [Act.put, List.setIfInBounds_toArray, List.set_cons_zero, List.set_cons_succ]
    refine rg_take (i := 3) (d := some 53) (l := #[true, true, true, true, false, false, false, false]) (fuel := 4) (v := ?_) rfl (by kernel_rfl) (by kernel_rfl) (by kernel_rfl) (by kernel_rfl) (by kernel_rfl) (fun _ _ _ h => h) (by kernel_rfl) ?_ (by assumption) ?_
    rotate_left 1
    · (intro wS hSw; (try dsimp only at hSw); go_simp; try with_reducible rfl)
    try simp only [Act.put, List.setIfInBounds_toArray, List.set_cons_zero, List.set_cons_succ]
    refine rg_take (i := 4) (d := some 54) (l := #[true, true, true, true, true, false, false, false]) (fuel := 3) (v := ?_) rfl (by kernel_rfl) (by kernel_rfl) (by kernel_rfl) (by kernel_rfl) (by kernel_rfl) (fun _ _ _ h => h) (by kernel_rfl) ?_ (by assumption) ?_
    rotate_left 1
    · (intro wS hSw; (try dsimp only at hSw); go_simp; try with_reducible rfl)
    try simp only [Act.put, List.setIfInBounds_toArray, List.set_cons_zero, List.set_cons_succ]
    refine rg_take (i := 6) (d := some 56) (l := #[true, true, true, true, true, false, true, false]) (fuel := 2) (v := ?_) rfl (by kernel_rfl) (by kernel_rfl) (by kernel_rfl) (by kernel_rfl) (by kernel_rfl) (fun _ _ _ h => h) (by kernel_rfl) ?_ (by assumption) ?_
    rotate_left 1
    · (intro wS hSw; (try dsimp only at hSw); go_simp; try with_reducible rfl)
    try simp only [Act.put, List.setIfInBounds_toArray, List.set_cons_zero, List.set_cons_succ]
    refine rg_next (i := 5) (l := #[true, true, true, true, true, true, true, false]) (fuel := 1) (by kernel_rfl) rfl (by kernel_rfl) (by kernel_rfl) (fun K hK => ?_)
    go_simp
    (go_at_call 74)
    refine (rreg_v a0 a1 rfl).mono ?_
    rintro e w3 ⟨rfl, b3⟩
    have H3 := Lib.hid ((H2.out.kp0 (Kp.refl _ _).drew).keep b3)
    have K3 : Hid (Kp (J.all r) w w3) := Lib.hid (K2.out.drew.trans (Kp.of_below (L := []) b3) (by simp))
    clear b3 H2 K2 e0 e1 e2 e3 e4 e5 e6 e7
    obtain ⟨e0, e1, e2, e3, e4, e5, e6, e7⟩ := H3.out.cells
    first | (refine hK.out _ _ ?_ (fun hHeld => ?_)) | (go_wp2_with fail; refine hK.out _ _ ?_ (fun hHeld => ?_))
    · (try dsimp only); exact e2
    clear hK K
    try simp only [Act.put, List.setIfInBounds_toArray, List.set_cons_zero, List.set_cons_succ]
    refine rg_next (i := 7) (l := #[true, true, true, true, true, true, true, true]) (fuel := 0) (by kernel_rfl) rfl (by kernel_rfl) (by kernel_rfl) (fun K hK => ?_)
    go_simp
    (go_at_call 76)
    refine (rqwrite_any H3.out.q (regI (plA off)) u u0 u1).mono ?_
    rintro e w4 ⟨rfl, y1, y2⟩
    have H4 := Lib.hid (H3.out.vq y1 y2)
    have K4 : Hid (Kp (J.all r) w w4) := Lib.hid (K3.out.trans (y2.mono (M := J.all r) (by simp [Rr.all])) (fun z hz => .inl hz))
    clear y1 y2 e0 e1 e2 e3 e4 e5 e6 e7
    obtain ⟨e0, e1, e2, e3, e4, e5, e6, e7⟩ := H4.out.cells
    first | (refine hK.out _ _ ?_ (fun hHeld => ?_)) | (go_wp2_with fail; refine hK.out _ _ ?_ (fun hHeld => ?_))
    · (try dsimp only); exact e2
    clear hK K
    try simp only [Act.put, List.setIfInBounds_toArray, List.set_cons_zero, List.set_cons_succ]
    refine wpAnyH_done (by kernel_rfl) ?_ _
    go_wp2_with fail
    first | go_end0 | refine bodyPost_ret (results_none rfl _ _ _) rfl ?_
    exact ⟨rfl, H4.out, K4.out⟩
set_option maxHeartbeats 4000000 in
theorem rhwrite0 (h : RHp w r d J Z x) (off k : Int) (o0 : 0 ≤ off) (o1 : off ≤ 65535) (u : Int) (hk : whereI (plA off) = k) (hn : k < 5 ∨ 8 < k) :
    Calls Tryz.prog 40 #[.pointer (some ⟨r, 0, none⟩), .int .u16 off, .int .u8 u] w (RhR (.tuple #[]) r d J Z x (J.all r) w) := by
    obtain ⟨a0, a1⟩ := plA_bd off o0
    have n5 : (k == 5) = false := by simp; omega
    have n6 : (k == 6) = false := by simp; omega
    have n7 : (k == 7) = false := by simp; omega
    have n8 : (k == 8) = false := by simp; omega
    have H := Lib.hid h
    have HK := Lib.hid hk
    clear h hk hn
    go_enter Tryz.func40, Tryz.ntmps40
    go_wp2_with fail
    refine (rat_v o0 o1 rfl).mono ?_
    rintro e w' ⟨rfl, rfl⟩
    go_wp2_with fail
    refine (rwhere_v a0 a1 HK.out).mono ?_
    rintro e w1 ⟨rfl, b1⟩
    have H1 := Lib.hid (H.out.keep b1)
    have K1 : Hid (Kp [] w w1) := Lib.hid (Kp.of_below b1)
    clear b1 H
    go_wp2_with fail
    first | go_end0 | refine bodyPost_ret (results_none rfl _ _ _) rfl ?_
    exact ⟨rfl, H1.out, K1.out.mono (by simp)⟩
theorem rhwrite_any (h : RHp w r d J Z x) (off u : Int) (o0 : 0 ≤ off) (o1 : off ≤ 65535) (u0 : 0 ≤ u) (u1 : u ≤ 255) :
    Calls Tryz.prog 40 #[.pointer (some ⟨r, 0, none⟩), .int .u16 off, .int .u8 u] w (RhR (.tuple #[]) r d J Z (x.wr (whereI (plA off)) (regI (plA off)) u) (J.all r) w) := by
  obtain ⟨k, hk⟩ : ∃ k, whereI (plA off) = k := ⟨_, rfl⟩
  by_cases h5 : k = 5
  · subst h5; rw [hk]; exact rhwrite5 h off o0 o1 u u0 u1 hk
  by_cases h6 : k = 6
  · subst h6; rw [hk]; exact rhwrite6 h off o0 o1 u u0 u1 hk
  by_cases h7 : k = 7
  · subst h7; rw [hk]; exact rhwrite7 h off o0 o1 u u0 u1 hk
  by_cases h8 : k = 8
  · subst h8; rw [hk]; exact rhwrite8 h off o0 o1 u u0 u1 hk
  have e2 : x.wr k (regI (plA off)) u = x := by unfold Hp.wr; rw [if_neg h5, if_neg h6, if_neg h7, if_neg h8]
  rw [hk, e2]
  exact rhwrite0 h off k o0 o1 u hk (by omega)
end
end Go.Proofs.YtngfmofjonleeaaGreat
