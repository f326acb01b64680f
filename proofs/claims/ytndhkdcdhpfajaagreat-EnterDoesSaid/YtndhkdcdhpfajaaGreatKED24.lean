/-
  Texts of these proofs, one behind the other: Hard9, Hard10, Rh1, Rh2, Rh3, Rh5.
-/
import Derived.Test.YtndhkdcdhpfajaaGreatKED23
import Derived.Test.YtndhkdcdhpfajaaGreatKED21
import Derived.Test.YtndhkdcdhpfajaaGreatKED20
import Derived.Test.YtndhkdcdhpfajaaGreatKED19
import Derived.Test.YtndhkdcdhpfajaaGreatKED16
import Derived.Test.YtndhkdcdhpfajaaGreatKED08
import Derived.Test.YtndhkdcdhpfajaaGreatKED03
namespace Go.Proofs.YtndhkdcdhpfajaaGreat
open Go.RowKit
set_option linter.unusedVariables false
set_option linter.unusedSimpArgs false
set_option maxRecDepth 100000
section
variable {w : World} {A1 A2 A3 A : Option Addr} {n1 c1 n2 c2 n3 c3 n c : Nat} {z1 z2 z3 : Nat → Int} {es : Nat → Iib}
set_option maxHeartbeats 4000000 in
theorem hnew_long (h1 : n1 ≤ 9223372036854775807) (h2 : n2 ≤ 9223372036854775807) (h3 : n3 ≤ 9223372036854775807) (hl : 10000 < n1 ∨ 10000 < n2 ∨ 10000 < n3) :
  Calls Tryz.prog 7 #[.agg #[.slice A1 n1 c1, .slice A2 n2 c2, .slice A3 n3 c3], .slice A n c] w (NewHN (2, 0) w) := by
 have hlb : longB n1 n2 n3 = true := decide_eq_true hl
 have hchk := fcheck_any (w := (w.alloc (.cells #[.slice A1 n1 c1, .slice A2 n2 c2, .slice A3 n3 c3] 25)).alloc (.cells #[.int .i64 0, .int .i64 0] 37)) A1 A2 A3 n1 n2 n3 c1 c2 c3 h1 h2 h3
 rw [hlb] at hchk
 have HCHK := Lib.hid hchk
 have hb1 : Below w.heap.size w ((w.alloc (.cells #[.slice A1 n1 c1, .slice A2 n2 c2, .slice A3 n3 c3] 25)).alloc (.cells #[.int .i64 0, .int .i64 0] 37)) := ((Below.refl _ _).alloc (Nat.le_refl _) _).alloc (by simp) _
 have G0 := Lib.hid (Blk.new (w.alloc (.cells #[.slice A1 n1 c1, .slice A2 n2 c2, .slice A3 n3 c3] 25)) 37 #[.int .i64 0, .int .i64 0])
 rw [World.size_alloc] at G0
 have HB := Lib.hid hb1
 clear hlb hchk hb1 hl h1 h2 h3
 go_enter Tryz.func7, Tryz.ntmps7
 go_wp2_with fail
 generalize World.alloc _ _ = w1 at *
 refine HCHK.out.mono ?_
 rintro e w2 ⟨rfl, b2⟩
 have s1 : w.heap.size + 1 < w1.heap.size := G0.out.lt
 have HB2 := Lib.hid (HB.out.trans (b2.mono (by omega)))
 have G2 := Lib.hid (G0.out.below b2 G0.out.lt)
 have e0 : w2.cell? ⟨w.heap.size + 1, 0, none⟩ = some (.int .i64 0) := G2.out.cell 0
 have e1 : w2.cell? ⟨w.heap.size + 1, 1, none⟩ = some (.int .i64 0) := G2.out.cell 1
 have f0 := G2.out.frozen 0
 have f1 := G2.out.frozen 1
 clear b2 HB G0 HCHK s1
 go_wp2_with fail
 have NB := (G2.out.set_ 0 (.int .i64 2)).set_ 1 (.int .i64 0)
 have B9 := Lib.hid ((HB2.out.setCell (p := ⟨w.heap.size + 1, 0, none⟩) (by simp) (.int .i64 2)).setCell (p := ⟨w.heap.size + 1, 1, none⟩) (by simp) (.int .i64 0))
 simp only [List.setIfInBounds_toArray, List.set_cons_zero, List.set_cons_succ] at NB
 clear e0 e1 f0 f1
 generalize World.setCell (World.setCell _ _ _) _ _ = wz at *
 have y0 : wz.cell? ⟨w.heap.size + 1, 0, none⟩ = some (.int .i64 2) := NB.cell 0
 have y1 : wz.cell? ⟨w.heap.size + 1, 1, none⟩ = some (.int .i64 0) := NB.cell 1
 clear NB
 refine bodyPost_ret (v := .tuple #[.pointer none, .agg #[.int .i64 2, .int .i64 0]]) (by simp [results, Tryz.results7, go_sem, y0, y1]) rfl ?_
 exact ⟨rfl, B9.out⟩
set_option maxHeartbeats 4000000 in
theorem hnew_bad (R : ERow w A n es) (hl : ¬ (10000 < n1 ∨ 10000 < n2 ∨ 10000 < n3)) (hc : n ≤ 9223372036854775807) (hk : (chk es n).1 ≠ 0) :
  Calls Tryz.prog 7 #[.agg #[.slice A1 n1 c1, .slice A2 n2 c2, .slice A3 n3 c3], .slice A n c] w (NewHN (chk es n) w) := by
 have hlb : longB n1 n2 n3 = false := decide_eq_false hl
 have hchk := fcheck_any (w := (w.alloc (.cells #[.slice A1 n1 c1, .slice A2 n2 c2, .slice A3 n3 c3] 25)).alloc (.cells #[.int .i64 0, .int .i64 0] 37)) A1 A2 A3 n1 n2 n3 c1 c2 c3 (by omega) (by omega) (by omega)
 rw [hlb] at hchk
 have HCHK := Lib.hid hchk
 have hb1 : Below w.heap.size w ((w.alloc (.cells #[.slice A1 n1 c1, .slice A2 n2 c2, .slice A3 n3 c3] 25)).alloc (.cells #[.int .i64 0, .int .i64 0] 37)) := ((Below.refl _ _).alloc (Nat.le_refl _) _).alloc (by simp) _
 have G0 := Lib.hid (Blk.new (w.alloc (.cells #[.slice A1 n1 c1, .slice A2 n2 c2, .slice A3 n3 c3] 25)) 37 #[.int .i64 0, .int .i64 0])
 rw [World.size_alloc] at G0
 have HB := Lib.hid hb1
 have HRE := Lib.hid R
 have hno := fun w (r : ERow w A n es) => lnew_no (c := c) r hc hk
 obtain ⟨⟨a, b⟩, hab⟩ : ∃ r, chk es n = r := ⟨_, rfl⟩
 rw [hab] at hk hno ⊢
 have hne : (a == 0) = false := by simpa using hk
 have HNO := Lib.hid hno
 clear hlb hchk hb1 hl R hno hk hab
 go_enter Tryz.func7, Tryz.ntmps7
 go_wp2_with fail
 generalize World.alloc _ _ = w1 at *
 refine HCHK.out.mono ?_
 rintro e w2 ⟨rfl, b2⟩
 have s1 : w.heap.size + 1 < w1.heap.size := G0.out.lt
 have HB2 := Lib.hid (HB.out.trans (b2.mono (by omega)))
 have G2 := Lib.hid (G0.out.below b2 G0.out.lt)
 clear b2 HB G0 HCHK s1
 go_wp2_with fail
 refine (HNO.out _ (FRow.keep HRE.out HB2.out)).mono ?_
 rintro e w3 ⟨rfl, b3⟩
 have s2 : w.heap.size + 1 < w2.heap.size := G2.out.lt
 have HB3 := Lib.hid (HB2.out.trans (b3.mono (by omega)))
 have G3 := Lib.hid (G2.out.below b3 G2.out.lt)
 clear b3 HB2 G2 s2
 go_wp2_with fail
 have s3 : w.heap.size + 1 < w3.heap.size := G3.out.lt
 have HB4 := Lib.hid (HB3.out.alloc (by omega) (.cells #[.int .i64 a, .int .i64 b] 37))
 have G4 := Lib.hid (G3.out.alloc (.cells #[.int .i64 a, .int .i64 b] 37))
 have n1 := Blk.new w3 37 #[.int .i64 a, .int .i64 b]
 have c30 : (w3.alloc (.cells #[.int .i64 a, .int .i64 b] 37)).cell? ⟨w3.heap.size, 0, none⟩ = some (.int .i64 a) := n1.cell 0
 have c31 : (w3.alloc (.cells #[.int .i64 a, .int .i64 b] 37)).cell? ⟨w3.heap.size, 1, none⟩ = some (.int .i64 b) := n1.cell 1
 have e0 : (w3.alloc (.cells #[.int .i64 a, .int .i64 b] 37)).cell? ⟨w.heap.size + 1, 0, none⟩ = some (.int .i64 0) := G4.out.cell 0
 have e1 : (w3.alloc (.cells #[.int .i64 a, .int .i64 b] 37)).cell? ⟨w.heap.size + 1, 1, none⟩ = some (.int .i64 0) := G4.out.cell 1
 have f0 := G4.out.frozen 0
 have f1 := G4.out.frozen 1
 clear n1 HB3 G3
 generalize World.alloc _ _ = w4 at *
 generalize w3.heap.size = g3 at *
 go_region
 all_goals
  go_wp2_with fail
  have NB := (G4.out.set_ 0 (.int .i64 a)).set_ 1 (.int .i64 b)
  have B9 := Lib.hid ((HB4.out.setCell (p := ⟨w.heap.size + 1, 0, none⟩) (by simp) (.int .i64 a)).setCell (p := ⟨w.heap.size + 1, 1, none⟩) (by simp) (.int .i64 b)).drew
  simp only [List.setIfInBounds_toArray, List.set_cons_zero, List.set_cons_succ] at NB
  have y0 : ((w4.setCell ⟨w.heap.size + 1, 0, none⟩ (.int .i64 a)).setCell ⟨w.heap.size + 1, 1, none⟩ (.int .i64 b)).drew.cell? ⟨w.heap.size + 1, 0, none⟩ = some (.int .i64 a) := NB.drew_.cell 0
  have y1 : ((w4.setCell ⟨w.heap.size + 1, 0, none⟩ (.int .i64 a)).setCell ⟨w.heap.size + 1, 1, none⟩ (.int .i64 b)).drew.cell? ⟨w.heap.size + 1, 1, none⟩ = some (.int .i64 b) := NB.drew_.cell 1
  show bodyPost Tryz.prog Tryz.f7 _ _ _ ((w4.setCell ⟨w.heap.size + 1, 0, none⟩ (.int .i64 a)).setCell ⟨w.heap.size + 1, 1, none⟩ (.int .i64 b)).drew
  clear e0 e1 f0 f1 NB
  generalize (World.setCell (World.setCell _ _ _) _ _).drew = wz at *
  refine bodyPost_ret (v := .tuple #[.pointer none, .agg #[.int .i64 a, .int .i64 b]]) (by simp [results, Tryz.results7, go_sem, y0, y1]) rfl ?_
  exact ⟨rfl, B9.out⟩
end
section
variable (w : World)
end
end Go.Proofs.YtndhkdcdhpfajaaGreat
namespace Go.Proofs.YtndhkdcdhpfajaaGreat
open Go.RowKit
set_option linter.unusedVariables false
set_option linter.unusedSimpArgs false
set_option maxRecDepth 100000
def es0 : Nat → Iib := fun _ => ⟨0, 0, false⟩
def d0 : Hd := ⟨0, es0, 0, fun _ => 0, 0, fun _ => 0, 0, fun _ => 0⟩
/-- A page that was made since. -/
def HT (B : Nat) (W : World) (g : Nat) (d : Hd) (b : Hb) (x : Hp) (w : World) : Prop := HP w g d b x ∧ Below B W w ∧ B ≤ w.heap.size ∧ (B ≤ g ∧ B ≤ b.v ∧ B ≤ b.c ∧ B ≤ b.p)
section
variable {B g : Nat} {W w w' : World} {d : Hd} {b : Hb} {x y : Hp}
theorem HT.on (h : HT B W g d b x w) (k : Below w.heap.size w w') : HT B W g d b x w' := ⟨h.1.keep k, h.2.1.trans (k.mono h.2.2.1), Nat.le_trans h.2.2.1 k.size, h.2.2.2⟩
theorem HT.go (h : HT B W g d b x w) {L : List Nat} (hL : ∀ z ∈ L, z ∈ [g, b.v, b.c, b.p]) (h1 : HP w' g d b y) (k : Kp L w w') : HT B W g d b y w' := by
 refine ⟨h1, k.onto h.2.1 h.2.2.1 (fun z hz => ?_), Nat.le_trans h.2.2.1 k.size, h.2.2.2⟩
 obtain ⟨a1, a2, a3, a4⟩ := h.2.2.2
 rcases (by simpa using hL z hz : z = g ∨ z = b.v ∨ z = b.c ∨ z = b.p) with rfl | rfl | rfl | rfl <;> assumption
end
section
variable {w : World} {g : Nat} {d : Hd} {b : Hb} {x y : Hp}
end
end Go.Proofs.YtndhkdcdhpfajaaGreat
namespace Go.Proofs.YtndhkdcdhpfajaaGreat
open Go.RowKit
set_option linter.unusedVariables false
set_option linter.unusedSimpArgs false
set_option maxRecDepth 100000
/-- Where its devices lie. -/
structure Rr where
 t : Nat
 q : Nat
 p : Nat
 v : Nat
 c : Nat
 l : Nat
/-- The slices that it was made of. -/
structure Rz where
 A1 : Option Addr
 c1 : Nat
 A2 : Option Addr
 c2 : Nat
 A3 : Option Addr
 c3 : Nat
 A : Option Addr
 c : Nat
def rhC (K : Rr) (x : Hp) : Array Value := #[.int .u8 x.buf, .pointer (some ⟨K.t, 0, none⟩), .pointer (some ⟨K.q, 0, none⟩), .pointer (some ⟨K.p, 0, none⟩), .pointer (some ⟨K.v, 0, none⟩), .pointer (some ⟨K.c, 0, none⟩), .pointer (some ⟨K.l, 0, none⟩), .int .i64 x.now]
def rfC (A : Option Addr) (n c t : Nat) : Array Value := #[.slice A n c, .int .i64 t]
structure RHp (w : World) (r : Nat) (d : Hd) (K : Rr) (Z : Rz) (x : Hp) : Prop where
 pg : Blk w r 121 (rhC K x)
 tm : RTM w K.t x.tm
 q : RQ w K.q x.q
 pt : RP w K.p Z.A3 d.np Z.c3 x.tp x.pt
 v : Blk w K.v 123 (rfC Z.A1 d.nv Z.c1 x.tv)
 c : Blk w K.c 123 (rfC Z.A2 d.nc Z.c2 x.tc)
 l : Blk w K.l 125 (rlC Z.A d.n Z.c x.s x.ro)
 ne : K.v ≠ K.c
section
variable {w w' : World} {r : Nat} {d : Hd} {K : Rr} {Z : Rz} {x : Hp} {L : List Nat}
theorem RHp.kp (h : RHp w r d K Z x) (k : Kp L w w') (hL : r ∉ L ∧ K.t ∉ L ∧ K.q ∉ L ∧ K.p ∉ L ∧ K.v ∉ L ∧ K.c ∉ L ∧ K.l ∉ L) : RHp w' r d K Z x := by
 obtain ⟨n0, n1, n2, n3, n4, n5, n6⟩ := hL
 exact ⟨h.pg.kp k n0, ⟨h.tm.1.kp k n1, h.tm.2⟩, h.q.kp k n2, h.pt.kp k n3, h.v.kp k n4, h.c.kp k n5, h.l.kp k n6, h.ne⟩
theorem RHp.keep (h : RHp w r d K Z x) (k : Below w.heap.size w w') : RHp w' r d K Z x := h.kp (L := []) (Kp.of_below k) (by simp)
theorem RHp.kp0 (h : RHp w r d K Z x) (k : Kp [] w w') : RHp w' r d K Z x := h.kp k (by simp)
/-- All of them are blocks of their own. -/
theorem RHp.nes (h : RHp w r d K Z x) : (r ≠ K.t ∧ r ≠ K.q ∧ r ≠ K.p ∧ r ≠ K.v ∧ r ≠ K.c ∧ r ≠ K.l) ∧ (K.t ≠ K.q ∧ K.t ≠ K.p ∧ K.t ≠ K.v ∧ K.t ≠ K.c ∧ K.t ≠ K.l) ∧ (K.q ≠ K.p ∧ K.q ≠ K.v ∧ K.q ≠ K.c ∧ K.q ≠ K.l) ∧ (K.p ≠ K.v ∧ K.p ≠ K.c ∧ K.p ≠ K.l) ∧ (K.v ≠ K.l ∧ K.c ≠ K.l) := by
 obtain ⟨pg, tm, q, pt, v, c, l, _⟩ := h
 refine ⟨⟨pg.ne_ tm.1 (by decide), pg.ne_ q.1 (by decide), pg.ne_ pt.1 (by decide), pg.ne_ v (by decide), pg.ne_ c (by decide), pg.ne_ l (by decide)⟩,
  ⟨tm.1.ne_ q.1 (by decide), tm.1.ne_ pt.1 (by decide), tm.1.ne_ v (by decide), tm.1.ne_ c (by decide), tm.1.ne_ l (by decide)⟩,
  ⟨q.1.ne_ pt.1 (by decide), q.1.ne_ v (by decide), q.1.ne_ c (by decide), q.1.ne_ l (by decide)⟩,
  ⟨pt.1.ne_ v (by decide), pt.1.ne_ c (by decide), pt.1.ne_ l (by decide)⟩, v.ne_ l (by decide), c.ne_ l (by decide)⟩
theorem RHp.cells (h : RHp w r d K Z x) : w.cell? ⟨r, 0, none⟩ = some (.int .u8 x.buf) ∧ w.cell? ⟨r, 1, none⟩ = some (.pointer (some ⟨K.t, 0, none⟩)) ∧ w.cell? ⟨r, 2, none⟩ = some (.pointer (some ⟨K.q, 0, none⟩)) ∧ w.cell? ⟨r, 3, none⟩ = some (.pointer (some ⟨K.p, 0, none⟩)) ∧
  w.cell? ⟨r, 4, none⟩ = some (.pointer (some ⟨K.v, 0, none⟩)) ∧ w.cell? ⟨r, 5, none⟩ = some (.pointer (some ⟨K.c, 0, none⟩)) ∧ w.cell? ⟨r, 6, none⟩ = some (.pointer (some ⟨K.l, 0, none⟩)) ∧ w.cell? ⟨r, 7, none⟩ = some (.int .i64 x.now) :=
 ⟨h.pg.cell 0, h.pg.cell 1, h.pg.cell 2, h.pg.cell 3, h.pg.cell 4, h.pg.cell 5, h.pg.cell 6, h.pg.cell 7⟩
theorem RHp.vtm (h : RHp w r d K Z x) {s : Tm} (h' : RTM w' K.t s) (k : Kp [K.t] w w') : RHp w' r d K Z { x with tm := s } := by
 obtain ⟨⟨a1, a2, a3, a4, a5, a6⟩, ⟨b1, b2, b3, b4, b5⟩, _⟩ := h.nes
 exact ⟨h.pg.kp k (by simpa using a1), h', h.q.kp k (by simpa using b1.symm), h.pt.kp k (by simpa using b2.symm), h.v.kp k (by simpa using b3.symm), h.c.kp k (by simpa using b4.symm), h.l.kp k (by simpa using b5.symm), h.ne⟩
theorem RHp.vq (h : RHp w r d K Z x) {s : Iq} (h' : RQ w' K.q s) (k : Kp [K.q] w w') : RHp w' r d K Z { x with q := s } := by
 obtain ⟨⟨a1, a2, a3, a4, a5, a6⟩, ⟨b1, b2, b3, b4, b5⟩, ⟨c1, c2, c3, c4⟩, _⟩ := h.nes
 exact ⟨h.pg.kp k (by simpa using a2), ⟨h.tm.1.kp k (by simpa using b1), h.tm.2⟩, h', h.pt.kp k (by simpa using c1.symm), h.v.kp k (by simpa using c2.symm), h.c.kp k (by simpa using c3.symm), h.l.kp k (by simpa using c4.symm), h.ne⟩
theorem RHp.vpt (h : RHp w r d K Z x) {s : Pt} {t : Nat} (h' : RP w' K.p Z.A3 d.np Z.c3 t s) (k : Kp [K.p] w w') : RHp w' r d K Z { x with pt := s, tp := t } := by
 obtain ⟨⟨a1, a2, a3, a4, a5, a6⟩, ⟨b1, b2, b3, b4, b5⟩, ⟨c1, c2, c3, c4⟩, ⟨d1, d2, d3⟩, _⟩ := h.nes
 exact ⟨h.pg.kp k (by simpa using a3), ⟨h.tm.1.kp k (by simpa using b2), h.tm.2⟩, h.q.kp k (by simpa using c1), h', h.v.kp k (by simpa using d1.symm), h.c.kp k (by simpa using d2.symm), h.l.kp k (by simpa using d3.symm), h.ne⟩
theorem RHp.vv (h : RHp w r d K Z x) {t : Nat} (h' : Blk w' K.v 123 (rfC Z.A1 d.nv Z.c1 t)) (k : Kp [K.v] w w') : RHp w' r d K Z { x with tv := t } := by
 obtain ⟨⟨a1, a2, a3, a4, a5, a6⟩, ⟨b1, b2, b3, b4, b5⟩, ⟨c1, c2, c3, c4⟩, ⟨d1, d2, d3⟩, e1, e2⟩ := h.nes
 exact ⟨h.pg.kp k (by simpa using a4), ⟨h.tm.1.kp k (by simpa using b3), h.tm.2⟩, h.q.kp k (by simpa using c2), h.pt.kp k (by simpa using d1), h', h.c.kp k (by simpa using h.ne.symm), h.l.kp k (by simpa using e1.symm), h.ne⟩
theorem RHp.vc (h : RHp w r d K Z x) {t : Nat} (h' : Blk w' K.c 123 (rfC Z.A2 d.nc Z.c2 t)) (k : Kp [K.c] w w') : RHp w' r d K Z { x with tc := t } := by
 obtain ⟨⟨a1, a2, a3, a4, a5, a6⟩, ⟨b1, b2, b3, b4, b5⟩, ⟨c1, c2, c3, c4⟩, ⟨d1, d2, d3⟩, e1, e2⟩ := h.nes
 exact ⟨h.pg.kp k (by simpa using a5), ⟨h.tm.1.kp k (by simpa using b4), h.tm.2⟩, h.q.kp k (by simpa using c3), h.pt.kp k (by simpa using d2), h.v.kp k (by simpa using h.ne), h', h.l.kp k (by simpa using e2.symm), h.ne⟩
theorem RHp.vl (h : RHp w r d K Z x) {s : Nat} {ro : Bool} (h' : Blk w' K.l 125 (rlC Z.A d.n Z.c s ro)) (k : Kp [K.l] w w') : RHp w' r d K Z { x with s := s, ro := ro } := by
 obtain ⟨⟨a1, a2, a3, a4, a5, a6⟩, ⟨b1, b2, b3, b4, b5⟩, ⟨c1, c2, c3, c4⟩, ⟨d1, d2, d3⟩, e1, e2⟩ := h.nes
 exact ⟨h.pg.kp k (by simpa using a6), ⟨h.tm.1.kp k (by simpa using b5), h.tm.2⟩, h.q.kp k (by simpa using c4), h.pt.kp k (by simpa using d3), h.v.kp k (by simpa using e1), h.c.kp k (by simpa using e2), h', h.ne⟩
/-- The page's own block. -/
theorem RHp.vpg (h : RHp w r d K Z x) (i : Nat) (u : Value) {y : Hp} (e : (rhC K x).setIfInBounds i u = rhC K y) (e1 : y.tm = x.tm) (e2 : y.q = x.q) (e3 : y.pt = x.pt ∧ y.tp = x.tp) (e4 : y.tv = x.tv) (e5 : y.tc = x.tc) (e6 : y.s = x.s ∧ y.ro = x.ro) :
  RHp (w.setCell ⟨r, i, none⟩ u) r d K Z y ∧ Kp [r] w (w.setCell ⟨r, i, none⟩ u) := by
 have k : Kp [r] w (w.setCell ⟨r, i, none⟩ u) := (Kp.refl _ _).setCell (.inl (by simp)) _
 obtain ⟨⟨a1, a2, a3, a4, a5, a6⟩, _⟩ := h.nes
 refine ⟨⟨by rw [← e]; exact h.pg.set_ i u, ?_, ?_, ?_, ?_, ?_, ?_, h.ne⟩, k⟩
 ·rw [e1]; exact ⟨h.tm.1.kp k (by simpa using a1.symm), h.tm.2⟩
 ·rw [e2]; exact h.q.kp k (by simpa using a2.symm)
 ·rw [e3.1, e3.2]; exact h.pt.kp k (by simpa using a3.symm)
 ·rw [e4]; exact h.v.kp k (by simpa using a4.symm)
 ·rw [e5]; exact h.c.kp k (by simpa using a5.symm)
 ·rw [e6.1, e6.2]; exact h.l.kp k (by simpa using a6.symm)
theorem RHp.vbuf (h : RHp w r d K Z x) (u : Int) : RHp (w.setCell ⟨r, 0, none⟩ (.int .u8 u)) r d K Z { x with buf := u } ∧ Kp [r] w (w.setCell ⟨r, 0, none⟩ (.int .u8 u)) := h.vpg 0 _ rfl rfl rfl ⟨rfl, rfl⟩ rfl rfl ⟨rfl, rfl⟩
theorem RHp.vnow (h : RHp w r d K Z x) (u : Int) : RHp (w.setCell ⟨r, 7, none⟩ (.int .i64 u)) r d K Z { x with now := u } ∧ Kp [r] w (w.setCell ⟨r, 7, none⟩ (.int .i64 u)) := h.vpg 7 _ rfl rfl rfl ⟨rfl, rfl⟩ rfl rfl ⟨rfl, rfl⟩
end
/-- What a Next of the reference's feed leaves. -/
def RfR (v : Value) (g n c t : Nat) (A : Option Addr) (w : World) (e : Ending) (w' : World) : Prop := e = .returned v ∧ Blk w' g 123 (rfC A n c t) ∧ Kp [g] w w'
set_option maxHeartbeats 2000000 in
theorem rfnext_any {w : World} {g n c t : Nat} {A : Option Addr} {z : Nat → Int} (h : Blk w g 123 (rfC A n c t)) (R : IRow w .u8 A n z) (hn : n ≤ 140737488355328) (ht : t ≤ 1000000000) :
  Calls Tryz.prog 132 #[.pointer (some ⟨g, 0, none⟩)] w (RfR (.int .u8 (peekI (n - t) (fun j => z (t + j)) 0)) g n c (t + 1) A w) := by
 have H := Lib.hid h
 have HR := Lib.hid R
 clear h R
 obtain ⟨b, hb⟩ : ∃ b, peekI (n - t) (fun j => z (t + j)) 0 = b := ⟨_, rfl⟩
 rw [hb]
 have HB := Lib.hid hb
 clear hb
 go_enter Tryz.func132, Tryz.ntmps132
 go_wp2_with fail
 refine (rppeek_any (H.out.cell 0) (H.out.cell 1) HR.out hn ht).mono ?_
 rw [HB.out]
 rintro e w1 ⟨rfl, k1⟩
 have H1 := Lib.hid (H.out.kp k1 (by simp))
 have c1 : w1.cell? ⟨g, 1, none⟩ = some (.int .i64 t) := H1.out.cell 1
 have f1 := H1.out.frozen 1
 go_wp2
 go_ret
 have hb2 := H1.out.set_ 1 (.int .i64 ((t : Int) + 1))
 exact ⟨rfl, hb2, (k1.mono (by simp)).trans ((Kp.refl [g] w1).setCell (.inl (by simp)) _) (by simp)⟩
end Go.Proofs.YtndhkdcdhpfajaaGreat
namespace Go.Proofs.YtndhkdcdhpfajaaGreat
open Go.RowKit
set_option linter.unusedVariables false
set_option linter.unusedSimpArgs false
set_option maxRecDepth 100000
def RhR (v : Value) (r : Nat) (d : Hd) (J : Rr) (Z : Rz) (y : Hp) (L : List Nat) (w : World) (e : Ending) (w' : World) : Prop := e = .returned v ∧ RHp w' r d J Z y ∧ Kp L w w'
def Rr.all (J : Rr) (r : Nat) : List Nat := [r, J.t, J.q, J.p, J.v, J.c, J.l]
/-- The edges lie in a block that isn't of the page's own. -/
def EOff (Z : Rz) (n : Nat) (J : Rr) : Prop := ∀ ad, Z.A = some ad → 0 < n → ad.block ∉ [J.l]
section
variable {w : World} {r : Nat} {d : Hd} {J : Rr} {Z : Rz} {x : Hp}
theorem rq_due {s : Iq} (h : RQ w r s) : RQ (w.setCell ⟨r, 1, none⟩ (.bool true)) r ⟨s.d, true⟩ ∧ Kp [r] w (w.setCell ⟨r, 1, none⟩ (.bool true)) := ⟨⟨h.1.set_ 1 _, h.2⟩, (Kp.refl _ _).setCell (.inl (by simp)) _⟩
set_option maxHeartbeats 4000000 in
theorem rhto_any (h : RHp w r d J Z x) (hok : x.ok d) (hG : Good d.n d.es) (RE : ERow w Z.A d.n d.es) (hE : ∀ w' : World, Kp (J.all r) w w' → ERow w' Z.A d.n d.es) (hA : EOff Z d.n J) (t : Int) (ht : t ≤ 9223372036854775807) :
  Calls Tryz.prog 124 #[.pointer (some ⟨r, 0, none⟩), .int .i64 t] w (RhR (.tuple #[]) r d J Z (x.to d t) (J.all r) w) := by
 have n0 : 0 ≤ x.now := hok.2.2.2.2.2
 have hs : x.s ≤ d.n := hok.2.1
 obtain ⟨c0, c1, c2, c3, c4, c5, c6, c7⟩ := h.cells
 have H := Lib.hid h
 have HE := Lib.hid hE
 have HA := Lib.hid hA
 have HG := Lib.hid hG
 clear h RE hE hA hG hok
 by_cases hle : t ≤ x.now
 ·have e : x.to d t = x := by unfold Hp.to; rw [if_pos hle]
  rw [e]
  clear e
  go_enter Tryz.func124, Tryz.ntmps124
  go_wp2
  first | go_end0 | refine bodyPost_ret (results_none rfl _ _ _) rfl ?_
  exact ⟨rfl, H.out, Kp.refl _ _⟩
 ·have hlt : x.now < t := by omega
  have e : x.to d t = { x with tm := x.tm.goN (t - x.now).toNat, q := if 0 < x.tm.overN (t - x.now).toNat then ⟨x.q.d, true⟩ else x.q, s := pass d.es d.n t x.s, ro := roseTo d.es x.ro x.s (pass d.es d.n t x.s - x.s), now := t } := by unfold Hp.to; rw [if_neg hle]
  have hd : t - x.now ≤ 9223372036854775807 := by omega
  have hwr : IntKind.i64.wrap (t - x.now) = t - x.now := IntWalk.i64_in _ (by omega)
  obtain ⟨N, hN⟩ : ∃ N, x.tm.overN (t - x.now).toNat = N := ⟨_, rfl⟩
  rw [hN] at e
  have HN := Lib.hid hN
  have HEQ := Lib.hid e
  clear e hN
  go_enter Tryz.func124, Tryz.ntmps124
  go_wp2_with fail
  refine rg_begin (S := fun w' => w'.cell? ⟨r, 1, none⟩ = some (.pointer (some ⟨J.t, 0, none⟩)) ∧ w'.cell? ⟨r, 7, none⟩ = some (.int .i64 x.now)) 12 #[false, false, false, false, false, false, false, false, false, false, false, false] (by kernel_rfl) (by kernel_rfl) (by kernel_rfl) ?_ (fun hHeld => ?_)
  ·exact ⟨c1, c7⟩
  refine rgu 0 (some 10) rfl ?_
  refine rgu 1 (some 11) rfl ?_
  refine rgu 2 (some 12) rfl ?_
  refine rgu 3 (some 13) rfl ?_
  refine rgu 4 (some 14) rfl ?_
  refine rgu 5 (some 15) rfl ?_
  refine rgu 6 (some 16) rfl ?_
  refine rgu 7 (some 17) rfl ?_
  refine rgu 8 (some 18) rfl ?_
  refine rgu 9 (some 19) rfl ?_
  try simp only [Act.put, List.setIfInBounds_toArray, List.set_cons_zero, List.set_cons_succ]
  try rw [hwr]
  refine rg_next (i := 10) (l := #[true, true, true, true, true, true, true, true, true, true, true, false]) (fuel := 1) (by kernel_rfl) rfl (by kernel_rfl) (by kernel_rfl) (fun K hK => ?_)
  go_simp
  (go_at_call 166)
  refine (rtgo_any (H.out.kp0 (Kp.refl _ _).drew).tm (t - x.now) hd).mono ?_
  rw [HN.out]
  rintro e w1 ⟨rfl, y1, y2⟩
  replace y2 : Kp [J.t] w w1 := ((Kp.refl [J.t] w).drew).trans y2 (by simp)
  have H1 := Lib.hid (H.out.vtm y1 y2)
  have K1 : Hid (Kp (J.all r) w w1) := Lib.hid (y2.mono (by simp [Rr.all]))
  have z1 := H1.out.cells.2.1
  have z7 := H1.out.cells.2.2.2.2.2.2.2
  dsimp only at z7
  clear y1 y2 c0 c1 c2 c3 c4 c5 c6 c7 H
  first | (refine hK.out _ _ ?_ (fun hHeld => ?_)) | (go_wp2_with fail; refine hK.out _ _ ?_ (fun hHeld => ?_))
  ·(try dsimp only); exact ⟨z1, z7⟩
  clear hK K
  refine rgu 11 (some 21) rfl ?_
  try simp only [Act.put, List.setIfInBounds_toArray, List.set_cons_zero, List.set_cons_succ]
  refine wpAnyH_done (by kernel_rfl) ?_ _
  clear hHeld z1 z7
  obtain ⟨y, hy⟩ : ∃ y : Hp, { x with tm := x.tm.goN (t - x.now).toNat, q := if 0 < N then ⟨x.q.d, true⟩ else x.q } = y := ⟨_, rfl⟩
  have HY := Lib.hid hy
  have hys : y.s = x.s := by rw [← hy]
  have fin : ∀ w2, RHp w2 r d J Z y → Kp (J.all r) w w2 → Calls Tryz.prog 167 #[.pointer (some ⟨J.l, 0, none⟩), .int .i64 t] w2 fun e w3 =>
    e = .returned (.tuple #[]) ∧ RHp w3 r d J Z { y with s := pass d.es d.n t y.s, ro := roseTo d.es y.ro y.s (pass d.es d.n t y.s - y.s) } ∧ Kp (J.all r) w w3 := fun w2 h2 k2 => by
   refine (rto_any h2.l (HE.out _ k2) HA.out (by rw [hys]; exact hs) HG.out.1 t).mono ?_
   rintro e w3 ⟨rfl, l3, k3⟩
   exact ⟨rfl, h2.vl l3 k3, k2.trans (k3.mono (M := J.all r) (by simp [Rr.all])) (fun z hz => .inl hz)⟩
  have FIN := Lib.hid fin
  clear hy fin
  by_cases h0 : 0 < N
  ·have hp : (0 : Int) < (N : Int) := by omega
   obtain ⟨d0, d1, d2, d3, d4, d5, d6, d7⟩ := H1.out.cells
   have q1 : w1.cell? ⟨J.q, 1, none⟩ = some (.bool x.q.due) := H1.out.q.1.cell 1
   have f1 := H1.out.q.1.frozen 1
   obtain ⟨y1, y2⟩ := rq_due H1.out.q
   have H2 : Hid (RHp (w1.setCell ⟨J.q, 1, none⟩ (.bool true)) r d J Z y) := Lib.hid (by have := H1.out.vq y1 y2; rw [← HY.out, if_pos h0]; exact this)
   have K2 : Hid (Kp (J.all r) w (w1.setCell ⟨J.q, 1, none⟩ (.bool true))) := Lib.hid (K1.out.trans (y2.mono (M := J.all r) (by simp [Rr.all])) (fun z hz => .inl hz))
   obtain ⟨d0', d1', d2', d3', d4', d5', d6', d7'⟩ := H2.out.cells
   clear y1 y2
   go_wp2_with fail
   refine (FIN.out _ H2.out K2.out).mono ?_
   rintro e w3 ⟨rfl, h3, k3⟩
   obtain ⟨r1, r2⟩ := h3.vnow t
   have k0 : w3.cell? ⟨r, 7, none⟩ = _ := h3.cells.2.2.2.2.2.2.2
   have g0 := h3.pg.frozen 7
   have R1 := Lib.hid r1
   have R2 := Lib.hid (k3.trans (r2.mono (M := J.all r) (by simp [Rr.all])) (fun z hz => .inl hz))
   clear h3 k3 r1 r2 d0 d1 d2 d3 d4 d5 d6 d7 d0' d1' d2' d3' d4' d5' d6' d7' q1 f1
   go_wp2
   first | go_end0 | refine bodyPost_ret (results_none rfl _ _ _) rfl ?_
   refine ⟨rfl, ?_, R2.out⟩
   rw [HEQ.out]
   have := HY.out
   subst this
   exact R1.out
  ·have hp : ¬ (0 : Int) < (N : Int) := by omega
   have H2 : Hid (RHp w1 r d J Z y) := Lib.hid (by have := H1.out; rw [← HY.out, if_neg h0]; exact this)
   obtain ⟨d0, d1, d2, d3, d4, d5, d6, d7⟩ := H1.out.cells
   go_wp2_with fail
   refine (FIN.out _ H2.out K1.out).mono ?_
   rintro e w3 ⟨rfl, h3, k3⟩
   obtain ⟨r1, r2⟩ := h3.vnow t
   have k0 : w3.cell? ⟨r, 7, none⟩ = _ := h3.cells.2.2.2.2.2.2.2
   have g0 := h3.pg.frozen 7
   have R1 := Lib.hid r1
   have R2 := Lib.hid (k3.trans (r2.mono (M := J.all r) (by simp [Rr.all])) (fun z hz => .inl hz))
   clear h3 k3 r1 r2 d0 d1 d2 d3 d4 d5 d6 d7
   go_wp2
   first | go_end0 | refine bodyPost_ret (results_none rfl _ _ _) rfl ?_
   refine ⟨rfl, ?_, R2.out⟩
   rw [HEQ.out]
   have := HY.out
   subst this
   exact R1.out
end
end Go.Proofs.YtndhkdcdhpfajaaGreat
namespace Go.Proofs.YtndhkdcdhpfajaaGreat
open Go.RowKit
set_option linter.unusedVariables false
set_option linter.unusedSimpArgs false
set_option maxRecDepth 100000
section
variable {w : World} {r : Nat} {d : Hd} {J : Rr} {Z : Rz} {x : Hp}
theorem rhup_v (h : RHp w r d J Z x) (hs : x.s ≤ d.n) (hn : d.n ≤ 1000) (R : ERow w Z.A d.n d.es) (l : Int) {u : Bool} (e : upTo d.es x.s l = u) :
  Calls Tryz.prog 61 #[.pointer (some ⟨J.l, 0, none⟩), .int .u8 l] w fun e w' => e = .returned (.bool u) ∧ w = w' := e ▸ rup_any h.l R hs hn l
theorem rqchoose_v {g : Nat} {s : Iq} (h : RQ w g s) {u0 u1 u2 u3 m : Bool} {x : Int} (e : chI s.d s.due u0 u1 u2 u3 m = x) :
  Calls Tryz.prog 60 #[.pointer (some ⟨g, 0, none⟩), .agg #[.bool u0, .bool u1, .bool u2, .bool u3], .bool m] w fun e w' => e = .returned (.int .u8 x) ∧ Below w.heap.size w w' := e ▸ rqchoose_any h u0 u1 u2 u3 m
set_option maxHeartbeats 4000000 in
theorem rhchoose_any (h : RHp w r d J Z x) (hok : x.ok d) (hG : Good d.n d.es) (RE : ERow w Z.A d.n d.es) (m : Bool) :
  Calls Tryz.prog 18 #[.pointer (some ⟨r, 0, none⟩), .bool m] w fun e w' => e = .returned (.int .u8 (x.ch d m)) ∧ Below w.heap.size w w' := by
 have hs : x.s ≤ d.n := hok.2.1
 have hn : d.n ≤ 1000 := hG.1
 have H := Lib.hid (h.kp0 (Kp.refl _ _).drew)
 have HR : Hid (ERow w.drew Z.A d.n d.es) := Lib.hid (FRow.kp RE (L := []) (Kp.refl _ _).drew (by simp))
 obtain ⟨c0, c1, c2, c3, c4, c5, c6, c7⟩ := h.cells
 have l2 : w.cell? ⟨J.l, 2, none⟩ = some (.bool x.ro) := h.l.cell 2
 obtain ⟨u0, h0⟩ : ∃ u, upTo d.es x.s 0 = u := ⟨_, rfl⟩
 obtain ⟨u2, h2⟩ : ∃ u, upTo d.es x.s 2 = u := ⟨_, rfl⟩
 obtain ⟨u3, h3⟩ : ∃ u, upTo d.es x.s 3 = u := ⟨_, rfl⟩
 obtain ⟨v, hv⟩ : ∃ v, x.ch d m = v := ⟨_, rfl⟩
 have hv2 : chI x.q.d x.q.due u0 x.ro u2 u3 m = v := by rw [← hv, ← h0, ← h2, ← h3]; rfl
 rw [hv]
 have H0 := Lib.hid h0
 have H2 := Lib.hid h2
 have H3 := Lib.hid h3
 have HV := Lib.hid hv2
 clear h h0 h2 h3 hv hv2 RE hok hG c0 c1 c3 c4 c5 c7
 go_enter Tryz.func18, Tryz.ntmps18
 go_wp2_with fail
 refine rg_begin (S := fun w' => w'.cell? ⟨r, 2, none⟩ = some (.pointer (some ⟨J.q, 0, none⟩)) ∧ w'.cell? ⟨r, 6, none⟩ = some (.pointer (some ⟨J.l, 0, none⟩)) ∧ w'.cell? ⟨J.l, 2, none⟩ = some (.bool x.ro)) 30 #[false, false, false, false, false, false, false, false, false, false, false, false, false, false, false, false, false, false, false, false, false, false, false, false, false, false, false, false, false, false] (by kernel_rfl) (by kernel_rfl) (by kernel_rfl) ?_ (fun hHeld => ?_)
 ·exact ⟨c2, c6, l2⟩
 refine rgu 0 (some 5) rfl ?_
 refine rgu 1 (some 6) rfl ?_
 refine rgu 2 (some 7) rfl ?_
 refine rgu 3 (some 8) rfl ?_
 refine rgu 4 (some 9) rfl ?_
 refine rgu 5 (some 10) rfl ?_
 refine rgu 6 (some 11) rfl ?_
 refine rgu 7 (some 12) rfl ?_
 refine rgu 9 (some 14) rfl ?_
 refine rgu 10 (some 15) rfl ?_
 refine rgu 11 (some 16) rfl ?_
 refine rgu 12 (some 17) rfl ?_
 refine rgu 13 (some 18) rfl ?_
 refine rgu 14 (some 19) rfl ?_
 refine rgu 15 (some 20) rfl ?_
 refine rgu 16 (some 21) rfl ?_
 refine rgu 17 (some 22) rfl ?_
 refine rgu 18 (some 23) rfl ?_
 refine rgu 19 (some 24) rfl ?_
 refine rgu 21 (some 26) rfl ?_
 refine rgu 22 (some 27) rfl ?_
 refine rgu 23 (some 28) rfl ?_
 refine rgu 24 (some 29) rfl ?_
 refine rgu 27 (some 32) rfl ?_
 try simp only [Act.put, List.setIfInBounds_toArray, List.set_cons_zero, List.set_cons_succ]
 refine rg_next (i := 8) (l := #[true, true, true, true, true, true, true, true, true, true, true, true, true, true, true, true, true, true, true, true, false, true, true, true, true, false, false, true, false, false]) (fuel := 5) (by kernel_rfl) rfl (by kernel_rfl) (by kernel_rfl) (fun K hK => ?_)
 go_simp
 (go_at_call 61)
 refine (rhup_v H.out hs hn HR.out 0 H0.out).mono ?_
 rintro e w' ⟨rfl, rfl⟩
 first | (refine hK.out _ _ ?_ (fun hHeld => ?_)) | (go_wp2_with fail; refine hK.out _ _ ?_ (fun hHeld => ?_))
 ·(try dsimp only); exact ⟨c2, c6, l2⟩
 clear hK K
 try simp only [Act.put, List.setIfInBounds_toArray, List.set_cons_zero, List.set_cons_succ]
 refine rg_next (i := 20) (l := #[true, true, true, true, true, true, true, true, true, true, true, true, true, true, true, true, true, true, true, true, true, true, true, true, true, false, false, true, false, false]) (fuel := 4) (by kernel_rfl) rfl (by kernel_rfl) (by kernel_rfl) (fun K hK => ?_)
 go_simp
 (go_at_call 61)
 refine (rhup_v H.out hs hn HR.out 2 H2.out).mono ?_
 rintro e w' ⟨rfl, rfl⟩
 first | (refine hK.out _ _ ?_ (fun hHeld => ?_)) | (go_wp2_with fail; refine hK.out _ _ ?_ (fun hHeld => ?_))
 ·(try dsimp only); exact ⟨c2, c6, l2⟩
 clear hK K
 try simp only [Act.put, List.setIfInBounds_toArray, List.set_cons_zero, List.set_cons_succ]
 refine rg_next (i := 25) (l := #[true, true, true, true, true, true, true, true, true, true, true, true, true, true, true, true, true, true, true, true, true, true, true, true, true, true, false, true, false, false]) (fuel := 3) (by kernel_rfl) rfl (by kernel_rfl) (by kernel_rfl) (fun K hK => ?_)
 go_simp
 (go_at_call 61)
 refine (rhup_v H.out hs hn HR.out 3 H3.out).mono ?_
 rintro e w' ⟨rfl, rfl⟩
 first | (refine hK.out _ _ ?_ (fun hHeld => ?_)) | (go_wp2_with fail; refine hK.out _ _ ?_ (fun hHeld => ?_))
 ·(try dsimp only); exact ⟨c2, c6, l2⟩
 clear hK K
 refine rgu 26 (some 31) rfl ?_
 try simp only [Act.put, List.setIfInBounds_toArray, List.set_cons_zero, List.set_cons_succ]
 refine rg_next (i := 28) (l := #[true, true, true, true, true, true, true, true, true, true, true, true, true, true, true, true, true, true, true, true, true, true, true, true, true, true, true, true, true, false]) (fuel := 1) (by kernel_rfl) rfl (by kernel_rfl) (by kernel_rfl) (fun K hK => ?_)
 go_simp
 (go_at_call 60)
 refine (rqchoose_v H.out.q HV.out).mono ?_
 rintro e w1 ⟨rfl, b1⟩
 have B1 : Hid (Below w.heap.size w w1) := Lib.hid ((Below.refl _ w).drew.trans b1)
 have H1 := Lib.hid (H.out.keep b1)
 have x2 := H1.out.cells.2.2.1
 have x6 := H1.out.cells.2.2.2.2.2.2.1
 have y2 : w1.cell? ⟨J.l, 2, none⟩ = some (.bool x.ro) := H1.out.l.cell 2
 clear b1
 first | (refine hK.out _ _ ?_ (fun hHeld => ?_)) | (go_wp2_with fail; refine hK.out _ _ ?_ (fun hHeld => ?_))
 ·(try dsimp only); exact ⟨x2, x6, y2⟩
 clear hK K
 refine rgu 29 (some 4) rfl ?_
 try simp only [Act.put, List.setIfInBounds_toArray, List.set_cons_zero, List.set_cons_succ]
 refine wpAnyH_done (by kernel_rfl) ?_ _
 go_wp2_with fail
 go_ret
 exact ⟨rfl, B1.out⟩
set_option maxHeartbeats 4000000 in
theorem rhentered_any (h : RHp w r d J Z x) (k : Int) (k0 : 0 ≤ k) (k1 : k ≤ 255) :
  Calls Tryz.prog 99 #[.pointer (some ⟨r, 0, none⟩), .int .u8 k] w (RhR (.tuple #[]) r d J Z (x.en k) (J.all r) w) := by
 obtain ⟨c0, c1, c2, c3, c4, c5, c6, c7⟩ := h.cells
 have H := Lib.hid h
 clear h
 by_cases h2 : k = 2
 ·subst h2
  have e : x.en 2 = { x with ro := false } := by unfold Hp.en; rw [if_pos rfl]
  rw [e]
  have l2 : w.cell? ⟨J.l, 2, none⟩ = some (.bool x.ro) := H.out.l.cell 2
  have f2 := H.out.l.frozen 2
  clear e
  go_enter Tryz.func99, Tryz.ntmps99
  go_wp2
  first | go_end0 | refine bodyPost_ret (results_none rfl _ _ _) rfl ?_
  have kp : Kp [J.l] w (w.setCell ⟨J.l, 2, none⟩ (.bool false)) := (Kp.refl _ _).setCell (.inl (by simp)) _
  exact ⟨rfl, H.out.vl (s := x.s) (ro := false) (H.out.l.set_ 2 _) kp, kp.mono (by simp [Rr.all])⟩
 ·have n2 : (k == 2) = false := by simpa using h2
  by_cases h1 : k = 1
  ·subst h1
   have e : x.en 1 = { x with tm := ⟨x.tm.gone, x.tm.c, x.tm.r, false⟩, q := ⟨0, false⟩ } := by
    unfold Hp.en; rw [if_neg (by decide), if_pos rfl]; rfl
   rw [e]
   clear e h2 n2
   have t2 : w.cell? ⟨J.t, 2, none⟩ = some (.bool x.tm.on) := H.out.tm.1.cell 2
   have f2 := H.out.tm.1.frozen 2
   have kt : Kp [J.t] w (w.setCell ⟨J.t, 2, none⟩ (.bool false)) := (Kp.refl _ _).setCell (.inl (by simp)) _
   have H1 : Hid (RHp (w.setCell ⟨J.t, 2, none⟩ (.bool false)) r d J Z { x with tm := ⟨x.tm.gone, x.tm.c, x.tm.r, false⟩ }) := Lib.hid (H.out.vtm (s := ⟨x.tm.gone, x.tm.c, x.tm.r, false⟩) ⟨H.out.tm.1.set_ 2 _, H.out.tm.2⟩ kt)
   have a2 := H1.out.cells.2.2.1
   have q0 : (w.setCell ⟨J.t, 2, none⟩ (.bool false)).cell? ⟨J.q, 0, none⟩ = some (.int .u8 x.q.d) := H1.out.q.1.cell 0
   have g0 := H1.out.q.1.frozen 0
   have kq : Kp [J.q] (w.setCell ⟨J.t, 2, none⟩ (.bool false)) ((w.setCell ⟨J.t, 2, none⟩ (.bool false)).setCell ⟨J.q, 0, none⟩ (.int .u8 0)) := (Kp.refl _ _).setCell (.inl (by simp)) _
   have H2 : Hid (RHp ((w.setCell ⟨J.t, 2, none⟩ (.bool false)).setCell ⟨J.q, 0, none⟩ (.int .u8 0)) r d J Z { x with tm := ⟨x.tm.gone, x.tm.c, x.tm.r, false⟩, q := ⟨0, x.q.due⟩ }) := Lib.hid (H1.out.vq (s := ⟨0, x.q.due⟩) ⟨H1.out.q.1.set_ 0 _, Nat.zero_le _⟩ kq)
   have b2 := H2.out.cells.2.2.1
   have q1 : ((w.setCell ⟨J.t, 2, none⟩ (.bool false)).setCell ⟨J.q, 0, none⟩ (.int .u8 0)).cell? ⟨J.q, 1, none⟩ = some (.bool x.q.due) := H2.out.q.1.cell 1
   have g1 := H2.out.q.1.frozen 1
   go_enter Tryz.func99, Tryz.ntmps99
   go_wp2
   first | go_end0 | refine bodyPost_ret (results_none rfl _ _ _) rfl ?_
   have kr : Kp [J.q] ((w.setCell ⟨J.t, 2, none⟩ (.bool false)).setCell ⟨J.q, 0, none⟩ (.int .u8 0)) (((w.setCell ⟨J.t, 2, none⟩ (.bool false)).setCell ⟨J.q, 0, none⟩ (.int .u8 0)).setCell ⟨J.q, 1, none⟩ (.bool false)) := (Kp.refl _ _).setCell (.inl (by simp)) _
   refine ⟨rfl, H2.out.vq (s := ⟨0, false⟩) ⟨H2.out.q.1.set_ 1 _, by decide⟩ kr, ?_⟩
   exact ((kt.mono (M := J.all r) (by simp [Rr.all])).trans (kq.mono (M := J.all r) (by simp [Rr.all])) (fun z hz => .inl hz)).trans (kr.mono (M := J.all r) (by simp [Rr.all])) (fun z hz => .inl hz)
  ·have n1 : (k == 1) = false := by simpa using h1
   have e : x.en k = x := by unfold Hp.en; rw [if_neg h2, if_neg h1]
   rw [e]
   clear e
   go_enter Tryz.func99, Tryz.ntmps99
   go_wp2
   first | go_end0 | refine bodyPost_ret (results_none rfl _ _ _) rfl ?_
   exact ⟨rfl, H.out, Kp.refl _ _⟩
end
end Go.Proofs.YtndhkdcdhpfajaaGreat
namespace Go.Proofs.YtndhkdcdhpfajaaGreat
open Go.RowKit
set_option linter.unusedVariables false
set_option linter.unusedSimpArgs false
set_option maxRecDepth 100000
theorem rat_v {o a : Int} {w : World} (o0 : 0 ≤ o) (o1 : o ≤ 65535) (e : plA o = a) : Calls Tryz.prog 126 #[.int .u16 o] w fun e w' => e = .returned (.int .u32 a) ∧ w = w' := by
 rw [← e]
 unfold plA
 clear e
 go_enter Tryz.func126, Tryz.ntmps126
 go_wp2
 go_ret
 exact ⟨by simp, rfl⟩
theorem rwhere_v {a k : Int} {w : World} (a0 : 0 ≤ a) (a1 : a ≤ 4294967295) (e : whereI a = k) : Calls Tryz.prog 71 #[.int .u32 a] w fun e w' => e = .returned (.int .u8 k) ∧ Below w.heap.size w w' := e ▸ rwhere_any a w a0 a1
theorem rreg_v {a k : Int} {w : World} (a0 : 0 ≤ a) (a1 : a ≤ 4294967295) (e : regI a = k) : Calls Tryz.prog 128 #[.int .u32 a] w fun e w' => e = .returned (.int .i64 k) ∧ Below w.heap.size w w' := e ▸ rreg_any a w a0 a1
section
variable {w : World} {r : Nat} {d : Hd} {J : Rr} {Z : Rz} {x : Hp}
set_option maxHeartbeats 4000000 in
theorem rhwrite5 (h : RHp w r d J Z x) (off : Int) (o0 : 0 ≤ off) (o1 : off ≤ 65535) (u : Int) (u0 : 0 ≤ u) (u1 : u ≤ 255) (hk : whereI (plA off) = 5) :
  Calls Tryz.prog 73 #[.pointer (some ⟨r, 0, none⟩), .int .u16 off, .int .u8 u] w (RhR (.tuple #[]) r d J Z { x with buf := u } (J.all r) w) := by
  obtain ⟨a0, a1⟩ := plA_bd off o0
  have H := Lib.hid h
  have HK := Lib.hid hk
  clear h hk
  go_enter Tryz.func73, Tryz.ntmps73
  go_wp2_with fail
  refine (rat_v o0 o1 rfl).mono ?_
  rintro e w' ⟨rfl, rfl⟩
  go_wp2_with fail
  refine (rwhere_v a0 a1 HK.out).mono ?_
  rintro e w1 ⟨rfl, b1⟩
  have H1 := Lib.hid (H.out.keep b1)
  have K1 : Hid (Kp [] w w1) := Lib.hid (Kp.of_below b1)
  clear b1 H
  have z0 := H1.out.cells.1
  have g0 := H1.out.pg.frozen 0
  obtain ⟨r1, r2⟩ := H1.out.vbuf u
  have H2 := Lib.hid r1
  have K2 : Hid (Kp (J.all r) w (w1.setCell ⟨r, 0, none⟩ (.int .u8 u))) := Lib.hid ((K1.out.mono (by simp)).trans (r2.mono (M := J.all r) (by simp [Rr.all])) (fun z hz => .inl hz))
  obtain ⟨e0, e1, e2, e3, e4, e5, e6, e7⟩ := H2.out.cells
  clear r1 r2
  go_wp2_with fail
  first | go_end0 | refine bodyPost_ret (results_none rfl _ _ _) rfl ?_
  exact ⟨rfl, H2.out, K2.out⟩
set_option maxHeartbeats 4000000 in
theorem rhwrite6 (h : RHp w r d J Z x) (off : Int) (o0 : 0 ≤ off) (o1 : off ≤ 65535) (u : Int) (u0 : 0 ≤ u) (u1 : u ≤ 255) (hk : whereI (plA off) = 6) :
  Calls Tryz.prog 73 #[.pointer (some ⟨r, 0, none⟩), .int .u16 off, .int .u8 u] w (RhR (.tuple #[]) r d J Z { x with tm := x.tm.wr (regI (plA off)) u, buf := u } (J.all r) w) := by
  obtain ⟨a0, a1⟩ := plA_bd off o0
  have H := Lib.hid h
  have HK := Lib.hid hk
  clear h hk
  go_enter Tryz.func73, Tryz.ntmps73
  go_wp2_with fail
  refine (rat_v o0 o1 rfl).mono ?_
  rintro e w' ⟨rfl, rfl⟩
  go_wp2_with fail
  refine (rwhere_v a0 a1 HK.out).mono ?_
  rintro e w1 ⟨rfl, b1⟩
  have H1 := Lib.hid (H.out.keep b1)
  have K1 : Hid (Kp [] w w1) := Lib.hid (Kp.of_below b1)
  clear b1 H
  have z0 := H1.out.cells.1
  have g0 := H1.out.pg.frozen 0
  obtain ⟨r1, r2⟩ := H1.out.vbuf u
  have H2 := Lib.hid r1
  have K2 : Hid (Kp (J.all r) w (w1.setCell ⟨r, 0, none⟩ (.int .u8 u))) := Lib.hid ((K1.out.mono (by simp)).trans (r2.mono (M := J.all r) (by simp [Rr.all])) (fun z hz => .inl hz))
  obtain ⟨e0, e1, e2, e3, e4, e5, e6, e7⟩ := H2.out.cells
  clear r1 r2
  go_wp2_with fail
  clear z0 g0
  generalize World.setCell _ _ _ = w2 at *
  refine rg_begin (S := fun w' => w'.cell? ⟨r, 1, none⟩ = some (.pointer (some ⟨J.t, 0, none⟩))) 8 #[false, false, false, false, false, false, false, false] (by kernel_rfl) (by kernel_rfl) (by kernel_rfl) ?_ (fun hHeld => ?_)
  ·exact e1
  refine rgu 0 (some 32) rfl ?_
  refine rgu 1 (some 33) rfl ?_
  refine rgu 2 (some 34) rfl ?_
  refine rgu 3 (some 35) rfl ?_
  refine rgu 4 (some 36) rfl ?_
  refine rgu 6 (some 38) rfl ?_
  try simp only [Act.put, List.setIfInBounds_toArray, List.set_cons_zero, List.set_cons_succ]
  refine rg_next (i := 5) (l := #[true, true, true, true, true, true, true, false]) (fuel := 1) (by kernel_rfl) rfl (by kernel_rfl) (by kernel_rfl) (fun K hK => ?_)
  go_simp
  (go_at_call 128)
  refine (rreg_v a0 a1 rfl).mono ?_
  rintro e w3 ⟨rfl, b3⟩
  have H3 := Lib.hid ((H2.out.kp0 (Kp.refl _ _).drew).keep b3)
  have K3 : Hid (Kp (J.all r) w w3) := Lib.hid (K2.out.drew.trans (Kp.of_below (L := []) b3) (by simp))
  clear b3 H2 K2 e0 e1 e2 e3 e4 e5 e6 e7
  obtain ⟨e0, e1, e2, e3, e4, e5, e6, e7⟩ := H3.out.cells
  first | (refine hK.out _ _ ?_ (fun hHeld => ?_)) | (go_wp2_with fail; refine hK.out _ _ ?_ (fun hHeld => ?_))
  ·(try dsimp only); exact e1
  clear hK K
  try simp only [Act.put, List.setIfInBounds_toArray, List.set_cons_zero, List.set_cons_succ]
  refine rg_next (i := 7) (l := #[true, true, true, true, true, true, true, true]) (fuel := 0) (by kernel_rfl) rfl (by kernel_rfl) (by kernel_rfl) (fun K hK => ?_)
  go_simp
  (go_at_call 127)
  refine (rtwrite_any H3.out.tm (regI (plA off)) u u0 u1).mono ?_
  rintro e w4 ⟨rfl, y1, y2⟩
  have H4 := Lib.hid (H3.out.vtm y1 y2)
  have K4 : Hid (Kp (J.all r) w w4) := Lib.hid (K3.out.trans (y2.mono (M := J.all r) (by simp [Rr.all])) (fun z hz => .inl hz))
  clear y1 y2 e0 e1 e2 e3 e4 e5 e6 e7
  obtain ⟨e0, e1, e2, e3, e4, e5, e6, e7⟩ := H4.out.cells
  first | (refine hK.out _ _ ?_ (fun hHeld => ?_)) | (go_wp2_with fail; refine hK.out _ _ ?_ (fun hHeld => ?_))
  ·(try dsimp only); exact e1
  clear hK K
  try simp only [Act.put, List.setIfInBounds_toArray, List.set_cons_zero, List.set_cons_succ]
  refine wpAnyH_done (by kernel_rfl) ?_ _
  go_wp2_with fail
  first | go_end0 | refine bodyPost_ret (results_none rfl _ _ _) rfl ?_
  exact ⟨rfl, H4.out, K4.out⟩
set_option maxHeartbeats 4000000 in
theorem rhwrite7 (h : RHp w r d J Z x) (off : Int) (o0 : 0 ≤ off) (o1 : off ≤ 65535) (u : Int) (u0 : 0 ≤ u) (u1 : u ≤ 255) (hk : whereI (plA off) = 7) :
  Calls Tryz.prog 73 #[.pointer (some ⟨r, 0, none⟩), .int .u16 off, .int .u8 u] w (RhR (.tuple #[]) r d J Z { x with pt := x.pt.wr u, buf := u } (J.all r) w) := by
  obtain ⟨a0, a1⟩ := plA_bd off o0
  have H := Lib.hid h
  have HK := Lib.hid hk
  clear h hk
  go_enter Tryz.func73, Tryz.ntmps73
  go_wp2_with fail
  refine (rat_v o0 o1 rfl).mono ?_
  rintro e w' ⟨rfl, rfl⟩
  go_wp2_with fail
  refine (rwhere_v a0 a1 HK.out).mono ?_
  rintro e w1 ⟨rfl, b1⟩
  have H1 := Lib.hid (H.out.keep b1)
  have K1 : Hid (Kp [] w w1) := Lib.hid (Kp.of_below b1)
  clear b1 H
  have z0 := H1.out.cells.1
  have g0 := H1.out.pg.frozen 0
  obtain ⟨r1, r2⟩ := H1.out.vbuf u
  have H2 := Lib.hid r1
  have K2 : Hid (Kp (J.all r) w (w1.setCell ⟨r, 0, none⟩ (.int .u8 u))) := Lib.hid ((K1.out.mono (by simp)).trans (r2.mono (M := J.all r) (by simp [Rr.all])) (fun z hz => .inl hz))
  obtain ⟨e0, e1, e2, e3, e4, e5, e6, e7⟩ := H2.out.cells
  clear r1 r2
  go_wp2_with fail
  clear z0 g0
  generalize World.setCell _ _ _ = w2 at *
  refine (rpwrite_any H2.out.pt u u0 u1).mono ?_
  rintro e w4 ⟨rfl, y1, y2⟩
  have H4 := Lib.hid (H2.out.vpt y1 y2)
  have K4 : Hid (Kp (J.all r) w w4) := Lib.hid (K2.out.trans (y2.mono (M := J.all r) (by simp [Rr.all])) (fun z hz => .inl hz))
  clear y1 y2 e0 e1 e2 e3 e4 e5 e6 e7
  go_wp2_with fail
  first | go_end0 | refine bodyPost_ret (results_none rfl _ _ _) rfl ?_
  exact ⟨rfl, H4.out, K4.out⟩
set_option maxHeartbeats 4000000 in
theorem rhwrite8 (h : RHp w r d J Z x) (off : Int) (o0 : 0 ≤ off) (o1 : off ≤ 65535) (u : Int) (u0 : 0 ≤ u) (u1 : u ≤ 255) (hk : whereI (plA off) = 8) :
  Calls Tryz.prog 73 #[.pointer (some ⟨r, 0, none⟩), .int .u16 off, .int .u8 u] w (RhR (.tuple #[]) r d J Z { x with q := x.q.wr (regI (plA off)) u, buf := u } (J.all r) w) := by
  obtain ⟨a0, a1⟩ := plA_bd off o0
  have H := Lib.hid h
  have HK := Lib.hid hk
  clear h hk
  go_enter Tryz.func73, Tryz.ntmps73
  go_wp2_with fail
  refine (rat_v o0 o1 rfl).mono ?_
  rintro e w' ⟨rfl, rfl⟩
  go_wp2_with fail
  refine (rwhere_v a0 a1 HK.out).mono ?_
  rintro e w1 ⟨rfl, b1⟩
  have H1 := Lib.hid (H.out.keep b1)
  have K1 : Hid (Kp [] w w1) := Lib.hid (Kp.of_below b1)
  clear b1 H
  have z0 := H1.out.cells.1
  have g0 := H1.out.pg.frozen 0
  obtain ⟨r1, r2⟩ := H1.out.vbuf u
  have H2 := Lib.hid r1
  have K2 : Hid (Kp (J.all r) w (w1.setCell ⟨r, 0, none⟩ (.int .u8 u))) := Lib.hid ((K1.out.mono (by simp)).trans (r2.mono (M := J.all r) (by simp [Rr.all])) (fun z hz => .inl hz))
  obtain ⟨e0, e1, e2, e3, e4, e5, e6, e7⟩ := H2.out.cells
  clear r1 r2
  go_wp2_with fail
  clear z0 g0
  generalize World.setCell _ _ _ = w2 at *
  refine rg_begin (S := fun w' => w'.cell? ⟨r, 2, none⟩ = some (.pointer (some ⟨J.q, 0, none⟩))) 8 #[false, false, false, false, false, false, false, false] (by kernel_rfl) (by kernel_rfl) (by kernel_rfl) ?_ (fun hHeld => ?_)
  ·exact e2
  refine rgu 0 (some 50) rfl ?_
  refine rgu 1 (some 51) rfl ?_
  refine rgu 2 (some 52) rfl ?_
  refine rgu 3 (some 53) rfl ?_
  refine rgu 4 (some 54) rfl ?_
  refine rgu 6 (some 56) rfl ?_
  try simp only [Act.put, List.setIfInBounds_toArray, List.set_cons_zero, List.set_cons_succ]
  refine rg_next (i := 5) (l := #[true, true, true, true, true, true, true, false]) (fuel := 1) (by kernel_rfl) rfl (by kernel_rfl) (by kernel_rfl) (fun K hK => ?_)
  go_simp
  (go_at_call 128)
  refine (rreg_v a0 a1 rfl).mono ?_
  rintro e w3 ⟨rfl, b3⟩
  have H3 := Lib.hid ((H2.out.kp0 (Kp.refl _ _).drew).keep b3)
  have K3 : Hid (Kp (J.all r) w w3) := Lib.hid (K2.out.drew.trans (Kp.of_below (L := []) b3) (by simp))
  clear b3 H2 K2 e0 e1 e2 e3 e4 e5 e6 e7
  obtain ⟨e0, e1, e2, e3, e4, e5, e6, e7⟩ := H3.out.cells
  first | (refine hK.out _ _ ?_ (fun hHeld => ?_)) | (go_wp2_with fail; refine hK.out _ _ ?_ (fun hHeld => ?_))
  ·(try dsimp only); exact e2
  clear hK K
  try simp only [Act.put, List.setIfInBounds_toArray, List.set_cons_zero, List.set_cons_succ]
  refine rg_next (i := 7) (l := #[true, true, true, true, true, true, true, true]) (fuel := 0) (by kernel_rfl) rfl (by kernel_rfl) (by kernel_rfl) (fun K hK => ?_)
  go_simp
  (go_at_call 130)
  refine (rqwrite_any H3.out.q (regI (plA off)) u u0 u1).mono ?_
  rintro e w4 ⟨rfl, y1, y2⟩
  have H4 := Lib.hid (H3.out.vq y1 y2)
  have K4 : Hid (Kp (J.all r) w w4) := Lib.hid (K3.out.trans (y2.mono (M := J.all r) (by simp [Rr.all])) (fun z hz => .inl hz))
  clear y1 y2 e0 e1 e2 e3 e4 e5 e6 e7
  obtain ⟨e0, e1, e2, e3, e4, e5, e6, e7⟩ := H4.out.cells
  first | (refine hK.out _ _ ?_ (fun hHeld => ?_)) | (go_wp2_with fail; refine hK.out _ _ ?_ (fun hHeld => ?_))
  ·(try dsimp only); exact e2
  clear hK K
  try simp only [Act.put, List.setIfInBounds_toArray, List.set_cons_zero, List.set_cons_succ]
  refine wpAnyH_done (by kernel_rfl) ?_ _
  go_wp2_with fail
  first | go_end0 | refine bodyPost_ret (results_none rfl _ _ _) rfl ?_
  exact ⟨rfl, H4.out, K4.out⟩
set_option maxHeartbeats 4000000 in
theorem rhwrite0 (h : RHp w r d J Z x) (off k : Int) (o0 : 0 ≤ off) (o1 : off ≤ 65535) (u : Int) (hk : whereI (plA off) = k) (hn : k < 5 ∨ 8 < k) :
  Calls Tryz.prog 73 #[.pointer (some ⟨r, 0, none⟩), .int .u16 off, .int .u8 u] w (RhR (.tuple #[]) r d J Z x (J.all r) w) := by
  obtain ⟨a0, a1⟩ := plA_bd off o0
  have n5 : (k == 5) = false := by simp; omega
  have n6 : (k == 6) = false := by simp; omega
  have n7 : (k == 7) = false := by simp; omega
  have n8 : (k == 8) = false := by simp; omega
  have H := Lib.hid h
  have HK := Lib.hid hk
  clear h hk hn
  go_enter Tryz.func73, Tryz.ntmps73
  go_wp2_with fail
  refine (rat_v o0 o1 rfl).mono ?_
  rintro e w' ⟨rfl, rfl⟩
  go_wp2_with fail
  refine (rwhere_v a0 a1 HK.out).mono ?_
  rintro e w1 ⟨rfl, b1⟩
  have H1 := Lib.hid (H.out.keep b1)
  have K1 : Hid (Kp [] w w1) := Lib.hid (Kp.of_below b1)
  clear b1 H
  go_wp2_with fail
  first | go_end0 | refine bodyPost_ret (results_none rfl _ _ _) rfl ?_
  exact ⟨rfl, H1.out, K1.out.mono (by simp)⟩
theorem rhwrite_any (h : RHp w r d J Z x) (off u : Int) (o0 : 0 ≤ off) (o1 : off ≤ 65535) (u0 : 0 ≤ u) (u1 : u ≤ 255) :
  Calls Tryz.prog 73 #[.pointer (some ⟨r, 0, none⟩), .int .u16 off, .int .u8 u] w (RhR (.tuple #[]) r d J Z (x.wr (whereI (plA off)) (regI (plA off)) u) (J.all r) w) := by
 obtain ⟨k, hk⟩ : ∃ k, whereI (plA off) = k := ⟨_, rfl⟩
 by_cases h5 : k = 5
 ·subst h5; rw [hk]; exact rhwrite5 h off o0 o1 u u0 u1 hk
 by_cases h6 : k = 6
 ·subst h6; rw [hk]; exact rhwrite6 h off o0 o1 u u0 u1 hk
 by_cases h7 : k = 7
 ·subst h7; rw [hk]; exact rhwrite7 h off o0 o1 u u0 u1 hk
 by_cases h8 : k = 8
 ·subst h8; rw [hk]; exact rhwrite8 h off o0 o1 u u0 u1 hk
 have e2 : x.wr k (regI (plA off)) u = x := by unfold Hp.wr; rw [if_neg h5, if_neg h6, if_neg h7, if_neg h8]
 rw [hk, e2]
 exact rhwrite0 h off k o0 o1 u hk (by omega)
end
end Go.Proofs.YtndhkdcdhpfajaaGreat
