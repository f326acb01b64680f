/-
  Texts of these proofs, one behind the other: Hard1, Hard2, Hard3, Hard7.
-/
import Derived.Test.YtngfmofjonleeaaGreatKEA15
import Derived.Test.YtngfmofjonleeaaGreatKEA17
import Derived.Test.YtngfmofjonleeaaGreatKEA18
import Derived.Test.YtngfmofjonleeaaGreatKEA19
import Derived.Test.YtngfmofjonleeaaGreatKEA06
import Derived.Test.YtngfmofjonleeaaGreatKEA08
import Derived.Deep.Cut
import Derived.Deep.CutRange
import Derived.Test.YtngfmofjonleeaaGreatKEA03
namespace Go.Proofs.YtngfmofjonleeaaGreat
open Go.RowKit
set_option linter.unusedVariables false
set_option linter.unusedSimpArgs false
set_option maxRecDepth 100000
section
variable {w : World} {g o : Nat} {b : Int}
theorem pvalue_any (c0 : w.cell? ⟨g, o, none⟩ = some (.int .u8 b)) :
    Calls Tryz.prog 131 #[.pointer (some ⟨g, o, none⟩)] w fun e w' => e = .returned (.int .u8 b) ∧ w = w' := by
  go_enter Tryz.func131, Tryz.ntmps131
  go_wp2
  go_ret
  exact ⟨rfl, rfl⟩
theorem plwrite_any (c0 : w.cell? ⟨g, o, none⟩ = some (.int .u8 b)) (f0 : w.frozen? ⟨g, o, none⟩ = false) (u : Int) :
    Calls Tryz.prog 125 #[.pointer (some ⟨g, o, none⟩), .int .u8 u] w fun e w' => e = .returned (.tuple #[]) ∧ w' = w.setCell ⟨g, o, none⟩ (.int .u8 u) := by
  go_enter Tryz.func125, Tryz.ntmps125
  go_wp2
  go_end0
  exact ⟨rfl, rfl⟩
theorem plread_any (c0 : w.cell? ⟨g, o, none⟩ = some (.int .u8 b)) (f0 : w.frozen? ⟨g, o, none⟩ = false) (m u : Int) :
    Calls Tryz.prog 132 #[.pointer (some ⟨g, o, none⟩), .int .u8 m, .int .u8 u] w fun e w' => e = .returned (.int .u8 (mixI b m u)) ∧ w' = w.setCell ⟨g, o, none⟩ (.int .u8 (mixI b m u)) := by
  have C0 := Lib.hid c0
  have F0 := Lib.hid f0
  clear c0 f0
  go_enter Tryz.func132, Tryz.ntmps132
  go_wp2_with fail
  refine (pvalue_any C0.out).mono ?_
  rintro e w' ⟨rfl, rfl⟩
  go_wp2_with fail
  refine (plwrite_any C0.out F0.out _).mono ?_
  rintro e w' ⟨rfl, rfl⟩
  go_wp2
  go_ret
  exact ⟨rfl, rfl⟩
end
/-- What changes in a page. -/
structure Hp where
  tm : Tm
  s : Nat
  ro : Bool
  buf : Int
  q : Iq
  pt : Pt
  tp : Nat
  tv : Nat
  tc : Nat
  now : Int
/-- What doesn't: its edges, and the bytes of its feeds. -/
structure Hd where
  n : Nat
  es : Nat → Iib
  nv : Nat
  zv : Nat → Int
  nc : Nat
  zc : Nat → Int
  np : Nat
  zp : Nat → Int
/-- Where its feeds keep what is left. -/
structure Hb where
  v : Nat
  c : Nat
  p : Nat
def hpX (b : Hb) (x : Hp) : Nat → Value
  | 0 => .int .i64 x.tm.gone
  | 1 => .int .u8 x.tm.c
  | 2 => .int .u8 x.tm.r
  | 3 => .bool x.tm.on
  | 11 => .int .u8 x.buf
  | 12 => .int .u8 x.q.d
  | 13 => .bool x.q.due
  | 14 => giveV b.p
  | 15 => .int .i64 x.tp
  | 16 => .int .u8 x.pt.l
  | 17 => .int .i64 x.pt.p
  | 18 => giveV b.v
  | 19 => .int .i64 x.tv
  | 20 => giveV b.c
  | 21 => .int .i64 x.tc
  | _ => .int .i64 x.now
def hpC (d : Hd) (b : Hb) (A : Option Addr) (c : Nat) (x : Hp) : Array Value := hpL (hpX b x) A d.n c x.s (fun j => upTo d.es x.s j) x.ro
theorem hpC_size (d : Hd) (b : Hb) (A : Option Addr) (c : Nat) (x : Hp) : (hpC d b A c x).size = 23 := rfl
/-- What of a feed is left. -/
def Box (w : World) (cb n : Nat) (z : Nat → Int) : Prop := ∃ v, Blk w cb 34 #[v] ∧ SliceB w cb v n z
theorem Box.kp {w w' : World} {cb n : Nat} {z : Nat → Int} {L : List Nat} (h : Box w cb n z) (k : Kp L w w') (hL : ∀ x ∈ L, ∃ t cs, Blk w x t cs ∧ 5 ≠ t) (h2 : cb ∉ L) : Box w' cb n z := by
  obtain ⟨v, hc, hb⟩ := h
  exact ⟨v, hc.kp k h2, hb.kp k hL⟩
def Hp.ok (x : Hp) (d : Hd) : Prop := x.tm.ok ∧ x.s ≤ d.n ∧ (0 ≤ x.buf ∧ x.buf ≤ 255) ∧ x.q.d ≤ 7 ∧ x.pt.ok ∧ 0 ≤ x.now
/-- What a page has beside its own block. -/
structure HPo (w : World) (d : Hd) (b : Hb) (A : Option Addr) (c : Nat) (x : Hp) : Prop where
  e : EOwn w A d.n c d.es
  v : Box w b.v (d.nv - x.tv) (fun i => d.zv (x.tv + i))
  c : Box w b.c (d.nc - x.tc) (fun i => d.zc (x.tc + i))
  p : Box w b.p (d.np - x.tp) (fun i => d.zp (x.tp + i))
  ne : b.v ≠ b.c ∧ b.v ≠ b.p ∧ b.c ≠ b.p
  ok : x.ok d
  gd : Good d.n d.es
/-- A page at g. -/
def HP (w : World) (g : Nat) (d : Hd) (b : Hb) (x : Hp) : Prop := ∃ A c, Blk w g 92 (hpC d b A c x) ∧ HPo w d b A c x
section
variable {w w' : World} {g : Nat} {d : Hd} {b : Hb} {x y : Hp} {L : List Nat} {A : Option Addr} {c : Nat}
theorem hp_off (hb : Blk w g 92 (hpC d b A c x)) (h : HPo w d b A c x) (hL : ∀ y ∈ L, y = g ∨ y = b.v ∨ y = b.c ∨ y = b.p) :
    (∀ y ∈ L, ∃ t cs, Blk w y t cs ∧ 5 ≠ t) ∧ (∀ y ∈ L, ∃ t cs, Blk w y t cs ∧ 150 ≠ t) := by
  refine ⟨fun y hy => ?_, fun y hy => ?_⟩
  all_goals
    rcases hL y hy with rfl | rfl | rfl | rfl
    · exact ⟨_, _, hb, by decide⟩
    · obtain ⟨v, h1, _⟩ := h.v; exact ⟨_, _, h1, by decide⟩
    · obtain ⟨v, h1, _⟩ := h.c; exact ⟨_, _, h1, by decide⟩
    · obtain ⟨v, h1, _⟩ := h.p; exact ⟨_, _, h1, by decide⟩
theorem hp_ne (hb : Blk w g 92 (hpC d b A c x)) (h : HPo w d b A c x) : g ≠ b.v ∧ g ≠ b.c ∧ g ≠ b.p := by
  obtain ⟨v1, h1, _⟩ := h.v
  obtain ⟨v2, h2, _⟩ := h.c
  obtain ⟨v3, h3, _⟩ := h.p
  exact ⟨hb.ne_ h1 (by decide), hb.ne_ h2 (by decide), hb.ne_ h3 (by decide)⟩
theorem HP.ne (h : HP w g d b x) : g ≠ b.v ∧ g ≠ b.c ∧ g ≠ b.p := by
  obtain ⟨A, c, hb, ho⟩ := h
  exact hp_ne hb ho
theorem HP.lt (h : HP w g d b x) : g < w.heap.size ∧ b.v < w.heap.size ∧ b.c < w.heap.size ∧ b.p < w.heap.size := by
  obtain ⟨A, c, hb, ho⟩ := h
  obtain ⟨v1, h1, _⟩ := ho.v
  obtain ⟨v2, h2, _⟩ := ho.c
  obtain ⟨v3, h3, _⟩ := ho.p
  exact ⟨hb.lt, h1.lt, h2.lt, h3.lt⟩
theorem HP.ok (h : HP w g d b x) : x.ok d := by
  obtain ⟨A, c, hb, ho⟩ := h
  exact ho.ok
theorem HP.gd (h : HP w g d b x) : Good d.n d.es := by
  obtain ⟨A, c, hb, ho⟩ := h
  exact ho.gd
/-- What happens elsewhere doesn't matter. -/
theorem HP.kp (h : HP w g d b x) (k : Kp L w w') (hL : ∀ y ∈ L, ∃ t cs, Blk w y t cs ∧ 5 ≠ t ∧ 150 ≠ t) (hn : g ∉ L ∧ b.v ∉ L ∧ b.c ∉ L ∧ b.p ∉ L) : HP w' g d b x := by
  obtain ⟨A, c, hb, ho⟩ := h
  have h8 : ∀ y ∈ L, ∃ t cs, Blk w y t cs ∧ 5 ≠ t := fun y hy => by obtain ⟨t, cs, h1, h2, _⟩ := hL y hy; exact ⟨t, cs, h1, h2⟩
  have hE : ∀ y ∈ L, ∃ t cs, Blk w y t cs ∧ 150 ≠ t := fun y hy => by obtain ⟨t, cs, h1, _, h2⟩ := hL y hy; exact ⟨t, cs, h1, h2⟩
  exact ⟨A, c, hb.kp k hn.1, ho.e.kp k hE, ho.v.kp k h8 hn.2.1, ho.c.kp k h8 hn.2.2.1, ho.p.kp k h8 hn.2.2.2, ho.ne, ho.ok, ho.gd⟩
theorem HP.keep (h : HP w g d b x) (k : Below w.heap.size w w') : HP w' g d b x :=
  h.kp (L := []) (Kp.of_below k) (fun x hx => by cases hx) (by simp)
theorem HP.kp0 (h : HP w g d b x) (k : Kp [] w w') : HP w' g d b x := h.kp k (fun x hx => by cases hx) (by simp)
/-- What is changed in its own block alone. -/
theorem hp_own (hb : Blk w g 92 (hpC d b A c x)) (h : HPo w d b A c x) (k : Kp [g] w w') (hb' : Blk w' g 92 (hpC d b A c y)) (e1 : y.tv = x.tv) (e2 : y.tc = x.tc) (e3 : y.tp = x.tp) (hok : y.ok d) : HP w' g d b y := by
  obtain ⟨h8, hE⟩ := hp_off (L := [g]) hb h (by simp)
  obtain ⟨n1, n2, n3⟩ := hp_ne hb h
  refine ⟨A, c, hb', h.e.kp k hE, ?_, ?_, ?_, h.ne, hok, h.gd⟩
  · rw [e1]; exact h.v.kp k h8 (by simpa using n1.symm)
  · rw [e2]; exact h.c.kp k h8 (by simpa using n2.symm)
  · rw [e3]; exact h.p.kp k h8 (by simpa using n3.symm)
/-- The timer. -/
theorem HP.tmr (h : HP w g d b x) : ∃ cs, TM w g 92 cs 0 x.tm ∧ ∀ w' s, TM w' g 92 cs 0 s → Kp [g] w w' → HP w' g d b { x with tm := s } := by
  obtain ⟨A, c, hb, ho⟩ := h
  refine ⟨hpC d b A c x, ⟨hb, (by first | (rw [hpC_size]; decide) | (rw [ptBase_size, hpC_size]; decide)), ho.ok.1⟩, fun w' s h' k => ?_⟩
  exact hp_own (y := { x with tm := s }) hb ho k h'.1 rfl rfl rfl ⟨h'.2.2, ho.ok.2⟩
/-- The controller. -/
theorem HP.irq (h : HP w g d b x) : ∃ cs, IQ w g 92 cs 12 x.q ∧ ∀ w' s, IQ w' g 92 cs 12 s → Kp [g] w w' → HP w' g d b { x with q := s } := by
  obtain ⟨A, c, hb, ho⟩ := h
  refine ⟨hpC d b A c x, ⟨hb, (by first | (rw [hpC_size]; decide) | (rw [ptBase_size, hpC_size]; decide)), ho.ok.2.2.2.1⟩, fun w' s h' k => ?_⟩
  exact hp_own (y := { x with q := s }) hb ho k h'.1 rfl rfl rfl ⟨ho.ok.1, ho.ok.2.1, ho.ok.2.2.1, h'.2.2, ho.ok.2.2.2.2⟩
/-- The lines. -/
theorem HP.lns (h : HP w g d b x) : LNH (hpX b x) w g d.n d.es x.s x.ro ∧ ∀ w' s r, LNH (hpX b x) w' g d.n d.es s r → Kp [g] w w' → HP w' g d b { x with s := s, ro := r } := by
  obtain ⟨A, c, hb, ho⟩ := h
  refine ⟨⟨ho.ok.2.1, A, c, hb, ho.e⟩, fun w' s r h' k => ?_⟩
  obtain ⟨h1, A', c', hb', he'⟩ := h'
  obtain ⟨h8, hE⟩ := hp_off (L := [g]) hb ho (by simp)
  obtain ⟨n1, n2, n3⟩ := hp_ne hb ho
  exact ⟨A', c', hb', he', ho.v.kp k h8 (by simpa using n1.symm), ho.c.kp k h8 (by simpa using n2.symm), ho.p.kp k h8 (by simpa using n3.symm), ho.ne, ⟨ho.ok.1, h1, ho.ok.2.2⟩, ho.gd⟩
/-- The buffer. -/
theorem HP.lat (h : HP w g d b x) : w.cell? ⟨g, 11, none⟩ = some (.int .u8 x.buf) ∧ w.frozen? ⟨g, 11, none⟩ = false ∧ ∀ u, 0 ≤ u → u ≤ 255 → HP (w.setCell ⟨g, 11, none⟩ (.int .u8 u)) g d b { x with buf := u } ∧ Kp [g] w (w.setCell ⟨g, 11, none⟩ (.int .u8 u)) := by
  obtain ⟨A, c, hb, ho⟩ := h
  refine ⟨hb.cell 11, hb.frozen 11, fun u h0 h1 => ?_⟩
  have k : Kp [g] w (w.setCell ⟨g, 11, none⟩ (.int .u8 u)) := (Kp.refl _ _).setCell (.inl (by simp)) _
  exact ⟨hp_own (y := { x with buf := u }) hb ho k (hb.set_ 11 _) rfl rfl rfl ⟨ho.ok.1, ho.ok.2.1, ⟨h0, h1⟩, ho.ok.2.2.2⟩, k⟩
/-- How far it went. -/
theorem HP.nw (h : HP w g d b x) : w.cell? ⟨g, 22, none⟩ = some (.int .i64 x.now) ∧ w.frozen? ⟨g, 22, none⟩ = false ∧ ∀ u, 0 ≤ u → HP (w.setCell ⟨g, 22, none⟩ (.int .i64 u)) g d b { x with now := u } ∧ Kp [g] w (w.setCell ⟨g, 22, none⟩ (.int .i64 u)) := by
  obtain ⟨A, c, hb, ho⟩ := h
  refine ⟨hb.cell 22, hb.frozen 22, fun u h0 => ?_⟩
  have k : Kp [g] w (w.setCell ⟨g, 22, none⟩ (.int .i64 u)) := (Kp.refl _ _).setCell (.inl (by simp)) _
  exact ⟨hp_own (y := { x with now := u }) hb ho k (hb.set_ 22 _) rfl rfl rfl ⟨ho.ok.1, ho.ok.2.1, ho.ok.2.2.1, ho.ok.2.2.2.1, ho.ok.2.2.2.2.1, h0⟩, k⟩
/-- The port. -/
theorem HP.prt (h : HP w g d b x) : ∃ cs, PT w g 92 cs 14 b.p d.np d.zp x.tp x.pt ∧ ∀ w' s t L, PT w' g 92 cs 14 b.p d.np d.zp t s → Kp L w w' → (∀ y ∈ L, y = g ∨ y = b.p) → HP w' g d b { x with pt := s, tp := t } := by
  obtain ⟨A, c, hb, ho⟩ := h
  refine ⟨hpC d b A c x, ⟨⟨hb, ⟨(by first | (rw [hpC_size]; decide) | (rw [ptBase_size, hpC_size]; decide)), by decide, by decide⟩, ho.p⟩, (by first | (rw [hpC_size]; decide) | (rw [ptBase_size, hpC_size]; decide)), ho.ok.2.2.2.2.1⟩, fun w' s t L h' k hL => ?_⟩
  obtain ⟨⟨h1, _, h3⟩, _, h4⟩ := h'
  obtain ⟨h8, hE⟩ := hp_off (L := L) hb ho (fun y hy => (hL y hy).elim .inl (fun e => .inr (.inr (.inr e))))
  obtain ⟨n1, n2, n3⟩ := hp_ne hb ho
  obtain ⟨m1, m2, m3⟩ := ho.ne
  exact ⟨A, c, h1, ho.e.kp k hE, ho.v.kp k h8 (fun e => (hL _ e).elim n1.symm m2), ho.c.kp k h8 (fun e => (hL _ e).elim n2.symm m3), h3, ho.ne, ⟨ho.ok.1, ho.ok.2.1, ho.ok.2.2.1, ho.ok.2.2.2.1, h4, ho.ok.2.2.2.2.2⟩, ho.gd⟩
/-- The feed of VDC. -/
theorem HP.fdv (h : HP w g d b x) : ∃ cs, FP w g 92 cs 18 b.v (d.nv - x.tv) (fun i => d.zv (x.tv + i)) x.tv ∧ ∀ w' t L, FP w' g 92 cs 18 b.v (d.nv - t) (fun i => d.zv (t + i)) (t : Nat) → Kp L w w' → (∀ y ∈ L, y = g ∨ y = b.v) → HP w' g d b { x with tv := t } := by
  obtain ⟨A, c, hb, ho⟩ := h
  refine ⟨hpC d b A c x, ⟨hb, ⟨(by first | (rw [hpC_size]; decide) | (rw [ptBase_size, hpC_size]; decide)), by decide, by decide⟩, ho.v⟩, fun w' t L h' k hL => ?_⟩
  obtain ⟨h1, _, h3⟩ := h'
  obtain ⟨h8, hE⟩ := hp_off (L := L) hb ho (fun y hy => (hL y hy).elim .inl (fun e => .inr (.inl e)))
  obtain ⟨n1, n2, n3⟩ := hp_ne hb ho
  obtain ⟨m1, m2, m3⟩ := ho.ne
  exact ⟨A, c, h1, ho.e.kp k hE, h3, ho.c.kp k h8 (fun e => (hL _ e).elim n2.symm (fun e => m1 e.symm)), ho.p.kp k h8 (fun e => (hL _ e).elim n3.symm (fun e => m2 e.symm)), ho.ne, ho.ok, ho.gd⟩
/-- The feed of VCE. -/
theorem HP.fdc (h : HP w g d b x) : ∃ cs, FP w g 92 cs 20 b.c (d.nc - x.tc) (fun i => d.zc (x.tc + i)) x.tc ∧ ∀ w' t L, FP w' g 92 cs 20 b.c (d.nc - t) (fun i => d.zc (t + i)) (t : Nat) → Kp L w w' → (∀ y ∈ L, y = g ∨ y = b.c) → HP w' g d b { x with tc := t } := by
  obtain ⟨A, c, hb, ho⟩ := h
  refine ⟨hpC d b A c x, ⟨hb, ⟨(by first | (rw [hpC_size]; decide) | (rw [ptBase_size, hpC_size]; decide)), by decide, by decide⟩, ho.c⟩, fun w' t L h' k hL => ?_⟩
  obtain ⟨h1, _, h3⟩ := h'
  obtain ⟨h8, hE⟩ := hp_off (L := L) hb ho (fun y hy => (hL y hy).elim .inl (fun e => .inr (.inr (.inl e))))
  obtain ⟨n1, n2, n3⟩ := hp_ne hb ho
  obtain ⟨m1, m2, m3⟩ := ho.ne
  exact ⟨A, c, h1, ho.e.kp k hE, ho.v.kp k h8 (fun e => (hL _ e).elim n1.symm m1), h3, ho.p.kp k h8 (fun e => (hL _ e).elim n3.symm (fun e => m3 e.symm)), ho.ne, ho.ok, ho.gd⟩
end
end Go.Proofs.YtngfmofjonleeaaGreat
namespace Go.Proofs.YtngfmofjonleeaaGreat
open Go.RowKit
set_option linter.unusedVariables false
set_option linter.unusedSimpArgs false
set_option maxRecDepth 100000
def HpR (v : Value) (g : Nat) (d : Hd) (b : Hb) (y : Hp) (L : List Nat) (w : World) (e : Ending) (w' : World) : Prop := e = .returned v ∧ HP w' g d b y ∧ Kp L w w'
def Hp.to (d : Hd) (x : Hp) (t : Int) : Hp :=
  if t ≤ x.now then x else { x with tm := x.tm.goN (t - x.now).toNat, q := if 0 < x.tm.overN (t - x.now).toNat then ⟨x.q.d, true⟩ else x.q, s := pass d.es d.n t x.s, ro := roseTo d.es x.ro x.s (pass d.es d.n t x.s - x.s), now := t }
section
variable {w : World} {g : Nat} {d : Hd} {b : Hb} {x : Hp}
set_option maxHeartbeats 4000000 in
theorem hgo_any (h : HP w g d b x) (t : Int) (ht : t ≤ 9223372036854775807) :
    Calls Tryz.prog 98 #[.pointer (some ⟨g, 0, none⟩), .int .i64 t] w (HpR (.tuple #[]) g d b (x.to d t) [g] w) := by
  have c0 := h.nw.1
  have n0 : 0 ≤ x.now := h.ok.2.2.2.2.2
  have H := Lib.hid h
  clear h
  by_cases hle : t ≤ x.now
  · have e : x.to d t = x := by unfold Hp.to; rw [if_pos hle]
    rw [e]
    clear e
    go_enter Tryz.func98, Tryz.ntmps98
    go_wp2
    first | go_end0 | refine bodyPost_ret (results_none rfl _ _ _) rfl ?_
    exact ⟨rfl, H.out, Kp.refl _ _⟩
  · have hlt : x.now < t := by omega
    have e : x.to d t = { x with tm := x.tm.goN (t - x.now).toNat, q := if 0 < x.tm.overN (t - x.now).toNat then ⟨x.q.d, true⟩ else x.q, s := pass d.es d.n t x.s, ro := roseTo d.es x.ro x.s (pass d.es d.n t x.s - x.s), now := t } := by unfold Hp.to; rw [if_neg hle]
    have hd : t - x.now ≤ 9223372036854775807 := by omega
    have hwr : IntKind.i64.wrap (t - x.now) = t - x.now := IntWalk.i64_in _ (by omega)
    obtain ⟨cs, ht1, ht2⟩ := H.out.tmr
    have HT1 := Lib.hid ht1
    have HT2 := Lib.hid ht2
    obtain ⟨N, hN⟩ : ∃ N, x.tm.overN (t - x.now).toNat = N := ⟨_, rfl⟩
    rw [hN] at e
    have HN := Lib.hid hN
    have HE := Lib.hid e
    clear e ht1 ht2 hN
    go_enter Tryz.func98, Tryz.ntmps98
    go_wp2_with fail
    refine rg_begin (S := fun w' => w'.cell? ⟨g, 22, none⟩ = some (.int .i64 x.now)) 11 #[false, false, false, false, false, false, false, false, false, false, false] (by kernel_rfl) (by kernel_rfl) (by kernel_rfl) ?_ (fun hHeld => ?_)
    · exact c0
    refine rg_take (i := 0) (d := some 14) (l := #[true, false, false, false, false, false, false, false, false, false, false]) (fuel := 10) (v := ?_) rfl (by kernel_rfl) (by kernel_rfl) (by kernel_rfl) (by kernel_rfl) (by kernel_rfl) (fun _ _ _ h => h) (by kernel_rfl) ?_ (by assumption) ?_
    rotate_left 1
    · (intro wS hSw; (try dsimp only at hSw); go_simp; try with_reducible rfl)
    try simp only [Act.put, List.setIfInBounds_toArray, List.set_cons_zero, List.set_cons_succ]
    refine rg_take (i := 1) (d := some 15) (l := #[true, true, false, false, false, false, false, false, false, false, false]) (fuel := 9) (v := ?_) rfl (by kernel_rfl) (by kernel_rfl) (by kernel_rfl) (by kernel_rfl) (by kernel_rfl) (fun _ _ _ h => h) (by kernel_rfl) ?_ (by assumption) ?_
    rotate_left 1
    · (intro wS hSw; (try dsimp only at hSw); go_simp; try with_reducible rfl)
    try simp only [Act.put, List.setIfInBounds_toArray, List.set_cons_zero, List.set_cons_succ]
    refine rg_take (i := 2) (d := some 16) (l := #[true, true, true, false, false, false, false, false, false, false, false]) (fuel := 8) (v := ?_) rfl (by kernel_rfl) (by kernel_rfl) (by kernel_rfl) (by kernel_rfl) (by kernel_rfl) (fun _ _ _ h => h) (by kernel_rfl) ?_ (by assumption) ?_
    rotate_left 1
    · (intro wS hSw; (try dsimp only at hSw); go_simp; try with_reducible rfl)
    try simp only [Act.put, List.setIfInBounds_toArray, List.set_cons_zero, List.set_cons_succ]
    refine rg_take (i := 3) (d := some 17) (l := #[true, true, true, true, false, false, false, false, false, false, false]) (fuel := 7) (v := ?_) rfl (by kernel_rfl) (by kernel_rfl) (by kernel_rfl) (by kernel_rfl) (by kernel_rfl) (fun _ _ _ h => h) (by kernel_rfl) ?_ (by assumption) ?_
    rotate_left 1
    · (intro wS hSw; (try dsimp only at hSw); go_simp; try with_reducible rfl)
    try simp only [Act.put, List.setIfInBounds_toArray, List.set_cons_zero, List.set_cons_succ]
    refine rg_take (i := 4) (d := some 18) (l := #[true, true, true, true, true, false, false, false, false, false, false]) (fuel := 6) (v := ?_) rfl (by kernel_rfl) (by kernel_rfl) (by kernel_rfl) (by kernel_rfl) (by kernel_rfl) (fun _ _ _ h => h) (by kernel_rfl) ?_ (by assumption) ?_
    rotate_left 1
    · (intro wS hSw; (try dsimp only at hSw); go_simp; try with_reducible rfl)
    try simp only [Act.put, List.setIfInBounds_toArray, List.set_cons_zero, List.set_cons_succ]
    refine rg_take (i := 5) (d := some 19) (l := #[true, true, true, true, true, true, false, false, false, false, false]) (fuel := 5) (v := ?_) rfl (by kernel_rfl) (by kernel_rfl) (by kernel_rfl) (by kernel_rfl) (by kernel_rfl) (fun _ _ _ h => h) (by kernel_rfl) ?_ (by assumption) ?_
    rotate_left 1
    · (intro wS hSw; (try dsimp only at hSw); go_simp; try with_reducible rfl)
    try simp only [Act.put, List.setIfInBounds_toArray, List.set_cons_zero, List.set_cons_succ]
    refine rg_take (i := 6) (d := some 20) (l := #[true, true, true, true, true, true, true, false, false, false, false]) (fuel := 4) (v := ?_) rfl (by kernel_rfl) (by kernel_rfl) (by kernel_rfl) (by kernel_rfl) (by kernel_rfl) (fun _ _ _ h => h) (by kernel_rfl) ?_ (by assumption) ?_
    rotate_left 1
    · (intro wS hSw; (try dsimp only at hSw); go_simp; try with_reducible rfl)
    try simp only [Act.put, List.setIfInBounds_toArray, List.set_cons_zero, List.set_cons_succ]
    refine rg_take (i := 7) (d := some 21) (l := #[true, true, true, true, true, true, true, true, false, false, false]) (fuel := 3) (v := ?_) rfl (by kernel_rfl) (by kernel_rfl) (by kernel_rfl) (by kernel_rfl) (by kernel_rfl) (fun _ _ _ h => h) (by kernel_rfl) ?_ (by assumption) ?_
    rotate_left 1
    · (intro wS hSw; (try dsimp only at hSw); go_simp; try with_reducible rfl)
    try simp only [Act.put, List.setIfInBounds_toArray, List.set_cons_zero, List.set_cons_succ]
    refine rg_take (i := 8) (d := some 22) (l := #[true, true, true, true, true, true, true, true, true, false, false]) (fuel := 2) (v := ?_) rfl (by kernel_rfl) (by kernel_rfl) (by kernel_rfl) (by kernel_rfl) (by kernel_rfl) (fun _ _ _ h => h) (by kernel_rfl) ?_ (by assumption) ?_
    rotate_left 1
    · (intro wS hSw; (try dsimp only at hSw); go_simp; try with_reducible rfl)
    try simp only [Act.put, List.setIfInBounds_toArray, List.set_cons_zero, List.set_cons_succ]
    try rw [hwr]
    refine rg_next (i := 9) (l := #[true, true, true, true, true, true, true, true, true, true, false]) (fuel := 1) (by kernel_rfl) rfl (by kernel_rfl) (by kernel_rfl) (fun K hK => ?_)
    go_simp
    (go_at_call 120)
    refine (tgo_any (HT1.out.kp (Kp.refl [] w).drew (by simp)) (t - x.now) hd).mono ?_
    rw [HN.out]
    rintro e w1 ⟨rfl, y1, y2⟩
    replace y2 : Kp [g] w w1 := ((Kp.refl [g] w).drew).trans y2 (by simp)
    have H1 := Lib.hid (HT2.out _ _ y1 y2)
    have K1 := Lib.hid y2
    have c1 := H1.out.nw.1
    dsimp only at c1
    clear y1 y2 c0 HT1 HT2
    first | (refine hK.out _ _ ?_ (fun hHeld => ?_)) | (go_wp2_with fail; refine hK.out _ _ ?_ (fun hHeld => ?_))
    · (try dsimp only); exact c1
    clear hK K
    try simp only [Act.put, List.setIfInBounds_toArray, List.set_cons_zero, List.set_cons_succ]
    refine rg_take (i := 10) (d := some 24) (l := #[true, true, true, true, true, true, true, true, true, true, true]) (fuel := 0) (v := ?_) rfl (by kernel_rfl) (by kernel_rfl) (by kernel_rfl) (by kernel_rfl) (by kernel_rfl) (fun _ _ _ h => h) (by kernel_rfl) ?_ (by assumption) ?_
    rotate_left 1
    · (intro wS hSw; (try dsimp only at hSw); go_simp; try with_reducible rfl)
    try simp only [Act.put, List.setIfInBounds_toArray, List.set_cons_zero, List.set_cons_succ]
    refine wpAnyH_done (by kernel_rfl) ?_ _
    clear hHeld c1
    obtain ⟨y, hy⟩ : ∃ y : Hp, { x with tm := x.tm.goN (t - x.now).toNat, q := if 0 < N then ⟨x.q.d, true⟩ else x.q } = y := ⟨_, rfl⟩
    have HY := Lib.hid hy
    have fin : ∀ w2 w3, HP w2 g d b y → Kp [g] w w2 → HLnR (hpX b y) (.tuple #[]) g d.n d.es (pass d.es d.n t y.s) (roseTo d.es y.ro y.s (pass d.es d.n t y.s - y.s)) w2 (.returned (.tuple #[])) w3 →
        HP w3 g d b { y with s := pass d.es d.n t y.s, ro := roseTo d.es y.ro y.s (pass d.es d.n t y.s - y.s) } ∧ Kp [g] w w3 := fun w2 w3 h2 k2 h3 => by
      obtain ⟨_, h4, k4⟩ := h3
      exact ⟨h2.lns.2 _ _ _ h4 k4, k2.trans k4 (by simp)⟩
    have FIN := Lib.hid fin
    clear hy fin
    by_cases h0 : 0 < N
    · have hp : (0 : Int) < (N : Int) := by omega
      go_wp2_with fail
      obtain ⟨cs2, q1, q2⟩ := H1.out.irq
      have Q2 := Lib.hid q2
      refine (qover_any q1).mono ?_
      rintro e w2 ⟨rfl, y1, y2⟩
      have H2 : Hid (HP w2 g d b y) := Lib.hid (by have := Q2.out _ _ y1 y2; rw [← HY.out, if_pos h0]; exact this)
      have K2 := Lib.hid (K1.out.trans y2 (by simp))
      clear y1 y2 q1 q2 Q2 H1 K1
      go_wp2_with fail
      refine (hto_any H2.out.lns.1 H2.out.gd t).mono ?_
      rintro e w3 h3
      obtain rfl := h3.1
      have F := Lib.hid (FIN.out _ _ H2.out K2.out h3)
      clear h3 H2 K2 FIN
      obtain ⟨c2, f2, _⟩ := F.out.1.nw
      go_wp2
      first | go_end0 | refine bodyPost_ret (results_none rfl _ _ _) rfl ?_
      obtain ⟨r1, r2⟩ := F.out.1.nw.2.2 t (by omega)
      refine ⟨rfl, ?_, F.out.2.trans r2 (by simp)⟩
      rw [HE.out]
      have := HY.out
      subst this
      exact r1
    · have hp : ¬ (0 : Int) < (N : Int) := by omega
      have H2 : Hid (HP w1 g d b y) := Lib.hid (by have := H1.out; rw [← HY.out, if_neg h0]; exact this)
      have K2 := K1
      clear H1 K1
      go_wp2_with fail
      refine (hto_any H2.out.lns.1 H2.out.gd t).mono ?_
      rintro e w3 h3
      obtain rfl := h3.1
      have F := Lib.hid (FIN.out _ _ H2.out K2.out h3)
      clear h3 H2 K2 FIN
      obtain ⟨c2, f2, _⟩ := F.out.1.nw
      go_wp2
      first | go_end0 | refine bodyPost_ret (results_none rfl _ _ _) rfl ?_
      obtain ⟨r1, r2⟩ := F.out.1.nw.2.2 t (by omega)
      refine ⟨rfl, ?_, F.out.2.trans r2 (by simp)⟩
      rw [HE.out]
      have := HY.out
      subst this
      exact r1
end
end Go.Proofs.YtngfmofjonleeaaGreat
namespace Go.Proofs.YtngfmofjonleeaaGreat
open Go.RowKit
set_option linter.unusedVariables false
set_option linter.unusedSimpArgs false
set_option maxRecDepth 100000
def Hp.en (x : Hp) (k : Int) : Hp := if k = 2 then { x with ro := false } else if k = 1 then { x with tm := x.tm.wr 1 0, q := (x.q.wr 2 0).wr 3 0 } else x
theorem hup_v {X : Nat → Value} {w : World} {g n : Nat} {es : Nat → Iib} {s : Nat} {r : Bool} (h : LNH X w g n es s r) (j : Nat) (hj : j < 4) {k : Int} (hk : (j : Int) = k) {u : Bool} (e : upTo es s k = u) :
    Calls Tryz.prog 153 #[.pointer (some ⟨g, 4, none⟩), .int .u8 k] w fun e w' => e = .returned (.bool u) ∧ w = w' := by
  have := hup_any h j (by omega)
  unfold upV at this
  rw [if_pos hj, hk, e] at this
  exact this
section
variable {w : World} {g : Nat} {d : Hd} {b : Hb} {x : Hp}
end
end Go.Proofs.YtngfmofjonleeaaGreat
namespace Go.Proofs.YtngfmofjonleeaaGreat
open Go.RowKit
set_option linter.unusedVariables false
set_option linter.unusedSimpArgs false
set_option maxRecDepth 100000
section
variable {w : World} {g : Nat} {d : Hd} {b : Hb} {x : Hp}
end
end Go.Proofs.YtngfmofjonleeaaGreat
