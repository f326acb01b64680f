/-
  Texts of these proofs, one behind the other: Hard1, Feed5, Hard8.
-/
import Derived.Test.YtccimkmlbcgekaaGreatKA17
import Derived.Test.YtccimkmlbcgekaaGreatKA19
import Derived.Test.YtccimkmlbcgekaaGreatKA21
import Derived.Test.YtccimkmlbcgekaaGreatKA24
import Derived.Test.YtccimkmlbcgekaaGreatKA23
import Derived.LoopN
import Derived.Test.YtccimkmlbcgekaaGreatKA06
namespace Go.Proofs.YtccimkmlbcgekaaGreat
open Go.RowKit
set_option linter.unusedVariables false
set_option linter.unusedSimpArgs false
set_option maxRecDepth 100000
section
variable {w : World} {g o : Nat} {b : Int}
theorem pvalue_any (c0 : w.cell? ⟨g, o, none⟩ = some (.int .u8 b)) :
    Calls Tryz.prog 113 #[.pointer (some ⟨g, o, none⟩)] w fun e w' => e = .returned (.int .u8 b) ∧ w = w' := by
  go_enter Tryz.func113, Tryz.ntmps113
  go_wp2
  go_ret
  exact ⟨rfl, rfl⟩
theorem plwrite_any (c0 : w.cell? ⟨g, o, none⟩ = some (.int .u8 b)) (f0 : w.frozen? ⟨g, o, none⟩ = false) (u : Int) :
    Calls Tryz.prog 174 #[.pointer (some ⟨g, o, none⟩), .int .u8 u] w fun e w' => e = .returned (.tuple #[]) ∧ w' = w.setCell ⟨g, o, none⟩ (.int .u8 u) := by
  go_enter Tryz.func174, Tryz.ntmps174
  go_wp2
  go_end0
  exact ⟨rfl, rfl⟩
theorem plread_any (c0 : w.cell? ⟨g, o, none⟩ = some (.int .u8 b)) (f0 : w.frozen? ⟨g, o, none⟩ = false) (m u : Int) :
    Calls Tryz.prog 169 #[.pointer (some ⟨g, o, none⟩), .int .u8 m, .int .u8 u] w fun e w' => e = .returned (.int .u8 (mixI b m u)) ∧ w' = w.setCell ⟨g, o, none⟩ (.int .u8 (mixI b m u)) := by
  have C0 := Lib.hid c0
  have F0 := Lib.hid f0
  clear c0 f0
  go_enter Tryz.func169, Tryz.ntmps169
  go_wp2_with fail
  refine (pvalue_any C0.out).mono ?_
  rintro e w' ⟨rfl, rfl⟩
  go_wp2_with fail
  refine (plwrite_any C0.out F0.out _).mono ?_
  rintro e w' ⟨rfl, rfl⟩
  go_wp2
  go_ret
  exact ⟨rfl, rfl⟩
end
/-- What changes in a page. -/
structure Hp where
  tm : Tm
  s : Nat
  ro : Bool
  buf : Int
  q : Iq
  pt : Pt
  tp : Nat
  tv : Nat
  tc : Nat
  now : Int
/-- What doesn't: its edges, and the bytes of its feeds. -/
structure Hd where
  n : Nat
  es : Nat → Iib
  nv : Nat
  zv : Nat → Int
  nc : Nat
  zc : Nat → Int
  np : Nat
  zp : Nat → Int
/-- Where its feeds keep what is left. -/
structure Hb where
  v : Nat
  c : Nat
  p : Nat
def hpX (b : Hb) (x : Hp) : Nat → Value
  | 0 => .int .i64 x.tm.gone
  | 1 => .int .u8 x.tm.c
  | 2 => .int .u8 x.tm.r
  | 3 => .bool x.tm.on
  | 11 => .int .u8 x.buf
  | 12 => .int .u8 x.q.d
  | 13 => .bool x.q.due
  | 14 => giveV b.p
  | 15 => .int .i64 x.tp
  | 16 => .int .u8 x.pt.l
  | 17 => .int .i64 x.pt.p
  | 18 => giveV b.v
  | 19 => .int .i64 x.tv
  | 20 => giveV b.c
  | 21 => .int .i64 x.tc
  | _ => .int .i64 x.now
def hpC (d : Hd) (b : Hb) (A : Option Addr) (c : Nat) (x : Hp) : Array Value := hpL (hpX b x) A d.n c x.s (fun j => upTo d.es x.s j) x.ro
theorem hpC_size (d : Hd) (b : Hb) (A : Option Addr) (c : Nat) (x : Hp) : (hpC d b A c x).size = 23 := rfl
/-- What of a feed is left. -/
def Box (w : World) (cb n : Nat) (z : Nat → Int) : Prop := ∃ v, Blk w cb 22 #[v] ∧ SliceB w v n z
theorem Box.kp {w w' : World} {cb n : Nat} {z : Nat → Int} {L : List Nat} (h : Box w cb n z) (k : Kp L w w') (hL : ∀ x ∈ L, ∃ t cs, Blk w x t cs ∧ 5 ≠ t) (h2 : cb ∉ L) : Box w' cb n z := by
  obtain ⟨v, hc, hb⟩ := h
  exact ⟨v, hc.kp k h2, hb.kp k hL⟩
def Hp.ok (x : Hp) (d : Hd) : Prop := x.tm.ok ∧ x.s ≤ d.n ∧ (0 ≤ x.buf ∧ x.buf ≤ 255) ∧ x.q.d ≤ 7 ∧ x.pt.ok ∧ 0 ≤ x.now
/-- What a page has beside its own block. -/
structure HPo (w : World) (d : Hd) (b : Hb) (A : Option Addr) (c : Nat) (x : Hp) : Prop where
  e : EOwn w A d.n c d.es
  v : Box w b.v (d.nv - x.tv) (fun i => d.zv (x.tv + i))
  c : Box w b.c (d.nc - x.tc) (fun i => d.zc (x.tc + i))
  p : Box w b.p (d.np - x.tp) (fun i => d.zp (x.tp + i))
  ne : b.v ≠ b.c ∧ b.v ≠ b.p ∧ b.c ≠ b.p
  ok : x.ok d
  gd : Good d.n d.es
/-- A page at g. -/
def HP (w : World) (g : Nat) (d : Hd) (b : Hb) (x : Hp) : Prop := ∃ A c, Blk w g 112 (hpC d b A c x) ∧ HPo w d b A c x
section
variable {w w' : World} {g : Nat} {d : Hd} {b : Hb} {x y : Hp} {L : List Nat} {A : Option Addr} {c : Nat}
theorem hp_off (hb : Blk w g 112 (hpC d b A c x)) (h : HPo w d b A c x) (hL : ∀ y ∈ L, y = g ∨ y = b.v ∨ y = b.c ∨ y = b.p) :
    (∀ y ∈ L, ∃ t cs, Blk w y t cs ∧ 5 ≠ t) ∧ (∀ y ∈ L, ∃ t cs, Blk w y t cs ∧ 179 ≠ t) := by
  refine ⟨fun y hy => ?_, fun y hy => ?_⟩
  all_goals
    rcases hL y hy with rfl | rfl | rfl | rfl
    · exact ⟨_, _, hb, by decide⟩
    · obtain ⟨v, h1, _⟩ := h.v; exact ⟨_, _, h1, by decide⟩
    · obtain ⟨v, h1, _⟩ := h.c; exact ⟨_, _, h1, by decide⟩
    · obtain ⟨v, h1, _⟩ := h.p; exact ⟨_, _, h1, by decide⟩
theorem hp_ne (hb : Blk w g 112 (hpC d b A c x)) (h : HPo w d b A c x) : g ≠ b.v ∧ g ≠ b.c ∧ g ≠ b.p := by
  obtain ⟨v1, h1, _⟩ := h.v
  obtain ⟨v2, h2, _⟩ := h.c
  obtain ⟨v3, h3, _⟩ := h.p
  exact ⟨hb.ne_ h1 (by decide), hb.ne_ h2 (by decide), hb.ne_ h3 (by decide)⟩
theorem HP.ne (h : HP w g d b x) : g ≠ b.v ∧ g ≠ b.c ∧ g ≠ b.p := by
  obtain ⟨A, c, hb, ho⟩ := h
  exact hp_ne hb ho
theorem HP.lt (h : HP w g d b x) : g < w.heap.size ∧ b.v < w.heap.size ∧ b.c < w.heap.size ∧ b.p < w.heap.size := by
  obtain ⟨A, c, hb, ho⟩ := h
  obtain ⟨v1, h1, _⟩ := ho.v
  obtain ⟨v2, h2, _⟩ := ho.c
  obtain ⟨v3, h3, _⟩ := ho.p
  exact ⟨hb.lt, h1.lt, h2.lt, h3.lt⟩
theorem HP.ok (h : HP w g d b x) : x.ok d := by
  obtain ⟨A, c, hb, ho⟩ := h
  exact ho.ok
theorem HP.gd (h : HP w g d b x) : Good d.n d.es := by
  obtain ⟨A, c, hb, ho⟩ := h
  exact ho.gd
/-- What happens elsewhere doesn't matter. -/
theorem HP.kp (h : HP w g d b x) (k : Kp L w w') (hL : ∀ y ∈ L, ∃ t cs, Blk w y t cs ∧ 5 ≠ t ∧ 179 ≠ t) (hn : g ∉ L ∧ b.v ∉ L ∧ b.c ∉ L ∧ b.p ∉ L) : HP w' g d b x := by
  obtain ⟨A, c, hb, ho⟩ := h
  have h8 : ∀ y ∈ L, ∃ t cs, Blk w y t cs ∧ 5 ≠ t := fun y hy => by obtain ⟨t, cs, h1, h2, _⟩ := hL y hy; exact ⟨t, cs, h1, h2⟩
  have hE : ∀ y ∈ L, ∃ t cs, Blk w y t cs ∧ 179 ≠ t := fun y hy => by obtain ⟨t, cs, h1, _, h2⟩ := hL y hy; exact ⟨t, cs, h1, h2⟩
  exact ⟨A, c, hb.kp k hn.1, ho.e.kp k hE, ho.v.kp k h8 hn.2.1, ho.c.kp k h8 hn.2.2.1, ho.p.kp k h8 hn.2.2.2, ho.ne, ho.ok, ho.gd⟩
theorem HP.keep (h : HP w g d b x) (k : Below w.heap.size w w') : HP w' g d b x :=
  h.kp (L := []) (Kp.of_below k) (fun x hx => by cases hx) (by simp)
theorem HP.kp0 (h : HP w g d b x) (k : Kp [] w w') : HP w' g d b x := h.kp k (fun x hx => by cases hx) (by simp)
/-- What is changed in its own block alone. -/
theorem hp_own (hb : Blk w g 112 (hpC d b A c x)) (h : HPo w d b A c x) (k : Kp [g] w w') (hb' : Blk w' g 112 (hpC d b A c y)) (e1 : y.tv = x.tv) (e2 : y.tc = x.tc) (e3 : y.tp = x.tp) (hok : y.ok d) : HP w' g d b y := by
  obtain ⟨h8, hE⟩ := hp_off (L := [g]) hb h (by simp)
  obtain ⟨n1, n2, n3⟩ := hp_ne hb h
  refine ⟨A, c, hb', h.e.kp k hE, ?_, ?_, ?_, h.ne, hok, h.gd⟩
  · rw [e1]; exact h.v.kp k h8 (by simpa using n1.symm)
  · rw [e2]; exact h.c.kp k h8 (by simpa using n2.symm)
  · rw [e3]; exact h.p.kp k h8 (by simpa using n3.symm)
/-- The timer. -/
theorem HP.tmr (h : HP w g d b x) : ∃ cs, TM w g 112 cs 0 x.tm ∧ ∀ w' s, TM w' g 112 cs 0 s → Kp [g] w w' → HP w' g d b { x with tm := s } := by
  obtain ⟨A, c, hb, ho⟩ := h
  refine ⟨hpC d b A c x, ⟨hb, (by first | (rw [hpC_size]; decide) | (rw [ptBase_size, hpC_size]; decide)), ho.ok.1⟩, fun w' s h' k => ?_⟩
  exact hp_own (y := { x with tm := s }) hb ho k h'.1 rfl rfl rfl ⟨h'.2.2, ho.ok.2⟩
/-- The controller. -/
theorem HP.irq (h : HP w g d b x) : ∃ cs, IQ w g 112 cs 12 x.q ∧ ∀ w' s, IQ w' g 112 cs 12 s → Kp [g] w w' → HP w' g d b { x with q := s } := by
  obtain ⟨A, c, hb, ho⟩ := h
  refine ⟨hpC d b A c x, ⟨hb, (by first | (rw [hpC_size]; decide) | (rw [ptBase_size, hpC_size]; decide)), ho.ok.2.2.2.1⟩, fun w' s h' k => ?_⟩
  exact hp_own (y := { x with q := s }) hb ho k h'.1 rfl rfl rfl ⟨ho.ok.1, ho.ok.2.1, ho.ok.2.2.1, h'.2.2, ho.ok.2.2.2.2⟩
/-- The lines. -/
theorem HP.lns (h : HP w g d b x) : LNH (hpX b x) w g d.n d.es x.s x.ro ∧ ∀ w' s r, LNH (hpX b x) w' g d.n d.es s r → Kp [g] w w' → HP w' g d b { x with s := s, ro := r } := by
  obtain ⟨A, c, hb, ho⟩ := h
  refine ⟨⟨ho.ok.2.1, A, c, hb, ho.e⟩, fun w' s r h' k => ?_⟩
  obtain ⟨h1, A', c', hb', he'⟩ := h'
  obtain ⟨h8, hE⟩ := hp_off (L := [g]) hb ho (by simp)
  obtain ⟨n1, n2, n3⟩ := hp_ne hb ho
  exact ⟨A', c', hb', he', ho.v.kp k h8 (by simpa using n1.symm), ho.c.kp k h8 (by simpa using n2.symm), ho.p.kp k h8 (by simpa using n3.symm), ho.ne, ⟨ho.ok.1, h1, ho.ok.2.2⟩, ho.gd⟩
/-- The buffer. -/
theorem HP.lat (h : HP w g d b x) : w.cell? ⟨g, 11, none⟩ = some (.int .u8 x.buf) ∧ w.frozen? ⟨g, 11, none⟩ = false ∧ ∀ u, 0 ≤ u → u ≤ 255 → HP (w.setCell ⟨g, 11, none⟩ (.int .u8 u)) g d b { x with buf := u } ∧ Kp [g] w (w.setCell ⟨g, 11, none⟩ (.int .u8 u)) := by
  obtain ⟨A, c, hb, ho⟩ := h
  refine ⟨hb.cell 11, hb.frozen 11, fun u h0 h1 => ?_⟩
  have k : Kp [g] w (w.setCell ⟨g, 11, none⟩ (.int .u8 u)) := (Kp.refl _ _).setCell (.inl (by simp)) _
  exact ⟨hp_own (y := { x with buf := u }) hb ho k (hb.set_ 11 _) rfl rfl rfl ⟨ho.ok.1, ho.ok.2.1, ⟨h0, h1⟩, ho.ok.2.2.2⟩, k⟩
/-- How far it went. -/
theorem HP.nw (h : HP w g d b x) : w.cell? ⟨g, 22, none⟩ = some (.int .i64 x.now) ∧ w.frozen? ⟨g, 22, none⟩ = false ∧ ∀ u, 0 ≤ u → HP (w.setCell ⟨g, 22, none⟩ (.int .i64 u)) g d b { x with now := u } ∧ Kp [g] w (w.setCell ⟨g, 22, none⟩ (.int .i64 u)) := by
  obtain ⟨A, c, hb, ho⟩ := h
  refine ⟨hb.cell 22, hb.frozen 22, fun u h0 => ?_⟩
  have k : Kp [g] w (w.setCell ⟨g, 22, none⟩ (.int .i64 u)) := (Kp.refl _ _).setCell (.inl (by simp)) _
  exact ⟨hp_own (y := { x with now := u }) hb ho k (hb.set_ 22 _) rfl rfl rfl ⟨ho.ok.1, ho.ok.2.1, ho.ok.2.2.1, ho.ok.2.2.2.1, ho.ok.2.2.2.2.1, h0⟩, k⟩
/-- The port. -/
theorem HP.prt (h : HP w g d b x) : ∃ cs, PT w g 112 cs 14 b.p d.np d.zp x.tp x.pt ∧ ∀ w' s t L, PT w' g 112 cs 14 b.p d.np d.zp t s → Kp L w w' → (∀ y ∈ L, y = g ∨ y = b.p) → HP w' g d b { x with pt := s, tp := t } := by
  obtain ⟨A, c, hb, ho⟩ := h
  refine ⟨hpC d b A c x, ⟨⟨hb, ⟨(by first | (rw [hpC_size]; decide) | (rw [ptBase_size, hpC_size]; decide)), by decide, by decide⟩, ho.p⟩, (by first | (rw [hpC_size]; decide) | (rw [ptBase_size, hpC_size]; decide)), ho.ok.2.2.2.2.1⟩, fun w' s t L h' k hL => ?_⟩
  obtain ⟨⟨h1, _, h3⟩, _, h4⟩ := h'
  obtain ⟨h8, hE⟩ := hp_off (L := L) hb ho (fun y hy => (hL y hy).elim .inl (fun e => .inr (.inr (.inr e))))
  obtain ⟨n1, n2, n3⟩ := hp_ne hb ho
  obtain ⟨m1, m2, m3⟩ := ho.ne
  exact ⟨A, c, h1, ho.e.kp k hE, ho.v.kp k h8 (fun e => (hL _ e).elim n1.symm m2), ho.c.kp k h8 (fun e => (hL _ e).elim n2.symm m3), h3, ho.ne, ⟨ho.ok.1, ho.ok.2.1, ho.ok.2.2.1, ho.ok.2.2.2.1, h4, ho.ok.2.2.2.2.2⟩, ho.gd⟩
/-- The feed of VDC. -/
theorem HP.fdv (h : HP w g d b x) : ∃ cs, FP w g 112 cs 18 b.v (d.nv - x.tv) (fun i => d.zv (x.tv + i)) x.tv ∧ ∀ w' t L, FP w' g 112 cs 18 b.v (d.nv - t) (fun i => d.zv (t + i)) (t : Nat) → Kp L w w' → (∀ y ∈ L, y = g ∨ y = b.v) → HP w' g d b { x with tv := t } := by
  obtain ⟨A, c, hb, ho⟩ := h
  refine ⟨hpC d b A c x, ⟨hb, ⟨(by first | (rw [hpC_size]; decide) | (rw [ptBase_size, hpC_size]; decide)), by decide, by decide⟩, ho.v⟩, fun w' t L h' k hL => ?_⟩
  obtain ⟨h1, _, h3⟩ := h'
  obtain ⟨h8, hE⟩ := hp_off (L := L) hb ho (fun y hy => (hL y hy).elim .inl (fun e => .inr (.inl e)))
  obtain ⟨n1, n2, n3⟩ := hp_ne hb ho
  obtain ⟨m1, m2, m3⟩ := ho.ne
  exact ⟨A, c, h1, ho.e.kp k hE, h3, ho.c.kp k h8 (fun e => (hL _ e).elim n2.symm (fun e => m1 e.symm)), ho.p.kp k h8 (fun e => (hL _ e).elim n3.symm (fun e => m2 e.symm)), ho.ne, ho.ok, ho.gd⟩
/-- The feed of VCE. -/
theorem HP.fdc (h : HP w g d b x) : ∃ cs, FP w g 112 cs 20 b.c (d.nc - x.tc) (fun i => d.zc (x.tc + i)) x.tc ∧ ∀ w' t L, FP w' g 112 cs 20 b.c (d.nc - t) (fun i => d.zc (t + i)) (t : Nat) → Kp L w w' → (∀ y ∈ L, y = g ∨ y = b.c) → HP w' g d b { x with tc := t } := by
  obtain ⟨A, c, hb, ho⟩ := h
  refine ⟨hpC d b A c x, ⟨hb, ⟨(by first | (rw [hpC_size]; decide) | (rw [ptBase_size, hpC_size]; decide)), by decide, by decide⟩, ho.c⟩, fun w' t L h' k hL => ?_⟩
  obtain ⟨h1, _, h3⟩ := h'
  obtain ⟨h8, hE⟩ := hp_off (L := L) hb ho (fun y hy => (hL y hy).elim .inl (fun e => .inr (.inr (.inl e))))
  obtain ⟨n1, n2, n3⟩ := hp_ne hb ho
  obtain ⟨m1, m2, m3⟩ := ho.ne
  exact ⟨A, c, h1, ho.e.kp k hE, ho.v.kp k h8 (fun e => (hL _ e).elim n1.symm m1), h3, ho.p.kp k h8 (fun e => (hL _ e).elim n3.symm (fun e => m3 e.symm)), ho.ne, ho.ok, ho.gd⟩
end
end Go.Proofs.YtccimkmlbcgekaaGreat
namespace Go.Proofs.YtccimkmlbcgekaaGreat
open Go.RowKit
set_option linter.unusedVariables false
set_option maxRecDepth 100000
def longB (a b c : Nat) : Bool := decide (10000 < a ∨ 10000 < b ∨ 10000 < c)
set_option maxHeartbeats 1000000 in
theorem anyLong_any {w : World} {g : Nat} (A B C : Option Addr) (a b c ca cb cc : Nat) (ha : a ≤ 9223372036854775807) (hb : b ≤ 9223372036854775807) (hc : c ≤ 9223372036854775807)
    (h : Blk w g 22 #[.slice A a ca, .slice B b cb, .slice C c cc]) :
    Calls Tryz.prog 95 #[.slice (some ⟨g, 0, none⟩) 3 3] w fun e w' => e = .returned (.bool (longB a b c)) ∧ w = w' := by
  have c0 : w.cell? ⟨g, 0, none⟩ = some (.slice A a ca) := h.cell 0
  have c1 : w.cell? ⟨g, 1, none⟩ = some (.slice B b cb) := h.cell 1
  have c2 : w.cell? ⟨g, 2, none⟩ = some (.slice C c cc) := h.cell 2
  clear h
  by_cases h1 : 10000 < a
  · have e : longB a b c = true := by unfold longB; simp [h1]
    rw [e]
    have h1' : (10000 : Int) < a := by omega
    go_enter Tryz.func95, Tryz.ntmps95
    go_wp2
    refine wp_loop_rounds 1 ?_
    rw [rounds_succ]
    go_wp2
    go_ret
    exact ⟨rfl, rfl⟩
  by_cases h2 : 10000 < b
  · have e : longB a b c = true := by unfold longB; simp [h2]
    rw [e]
    have h1' : ¬ (10000 : Int) < a := by omega
    have h2' : (10000 : Int) < b := by omega
    go_enter Tryz.func95, Tryz.ntmps95
    go_wp2
    refine wp_loop_rounds 2 ?_
    rw [rounds_succ]
    go_wp2
    rw [rounds_succ]
    go_wp2
    go_ret
    exact ⟨rfl, rfl⟩
  by_cases h3 : 10000 < c
  · have e : longB a b c = true := by unfold longB; simp [h3]
    rw [e]
    have h1' : ¬ (10000 : Int) < a := by omega
    have h2' : ¬ (10000 : Int) < b := by omega
    have h3' : (10000 : Int) < c := by omega
    go_enter Tryz.func95, Tryz.ntmps95
    go_wp2
    refine wp_loop_rounds 3 ?_
    rw [rounds_succ]
    go_wp2
    rw [rounds_succ]
    go_wp2
    rw [rounds_succ]
    go_wp2
    go_ret
    exact ⟨rfl, rfl⟩
  · have e : longB a b c = false := by unfold longB; simp [h1, h2, h3]
    rw [e]
    have h1' : ¬ (10000 : Int) < a := by omega
    have h2' : ¬ (10000 : Int) < b := by omega
    have h3' : ¬ (10000 : Int) < c := by omega
    go_enter Tryz.func95, Tryz.ntmps95
    go_wp2
    refine wp_loop_rounds 4 ?_
    rw [rounds_succ]
    go_wp2
    rw [rounds_succ]
    go_wp2
    rw [rounds_succ]
    go_wp2
    rw [rounds_succ]
    go_wp2
    go_ret
    exact ⟨rfl, rfl⟩
set_option maxHeartbeats 1000000 in
theorem fcheck_any {w : World} (A B C : Option Addr) (a b c ca cb cc : Nat) (ha : a ≤ 9223372036854775807) (hb : b ≤ 9223372036854775807) (hc : c ≤ 9223372036854775807) :
    Calls Tryz.prog 39 #[.agg #[.slice A a ca, .slice B b cb, .slice C c cc]] w fun e w' => e = .returned (.int .i64 (if longB a b c then 2 else 0)) ∧ Below w.heap.size w w' := by
  obtain ⟨l, hl⟩ : ∃ l, longB a b c = l := ⟨_, rfl⟩
  rw [hl]
  have HL := Lib.hid hl
  clear hl
  go_enter Tryz.func39, Tryz.ntmps39
  go_wp2_with fail
  refine (anyLong_any A B C a b c ca cb cc ha hb hc (Blk.new_ (by simp))).mono ?_
  rintro e w1 ⟨rfl, rfl⟩
  rw [HL.out]
  cases l
  all_goals
    go_wp2
    go_ret
    exact ⟨rfl, ((Below.refl _ _).alloc (Nat.le_refl _) _).alloc (by simp) _⟩
end Go.Proofs.YtccimkmlbcgekaaGreat
namespace Go.Proofs.YtccimkmlbcgekaaGreat
open Go.RowKit
set_option linter.unusedVariables false
set_option linter.unusedSimpArgs false
set_option maxRecDepth 100000
def Hp.new : Hp := ⟨Tm.new, 0, false, 0, ⟨0, false⟩, ⟨0, 0⟩, 0, 0, 0, 0⟩
theorem Hp.new_ok (d : Hd) : Hp.new.ok d := ⟨Tm.new_ok, Nat.zero_le _, ⟨by decide, by decide⟩, by decide, ⟨by decide, by decide⟩, by decide⟩
def NewHR (d : Hd) (w : World) (e : Ending) (w' : World) : Prop :=
  ∃ g b, e = .returned (.tuple #[.pointer (some ⟨g, 0, none⟩), .agg #[.int .i64 0, .int .i64 0]]) ∧ (w.heap.size ≤ g ∧ w.heap.size ≤ b.v ∧ w.heap.size ≤ b.c ∧ w.heap.size ≤ b.p) ∧ HP w' g d b Hp.new ∧ Below w.heap.size w w'
def NewHN (r : Int × Int) (w : World) (e : Ending) (w' : World) : Prop := e = .returned (.tuple #[.pointer none, .agg #[.int .i64 r.1, .int .i64 r.2]]) ∧ Below w.heap.size w w'
section
variable {w : World} {A1 A2 A3 A : Option Addr} {n1 c1 n2 c2 n3 c3 n c : Nat} {z1 z2 z3 : Nat → Int} {es : Nat → Iib}
theorem HP.bkp {w w' : World} {k : Nat} {t : TypeId} {cs : Array Value} {B : Nat} (h : Blk w k t cs) (kp : Below B w w') (hB : k < B) : Blk w' k t cs := h.below kp hB
set_option maxHeartbeats 16000000 in
theorem hnew_yes (N1 : A1 = none → n1 = 0 ∧ c1 = 0) (N2 : A2 = none → n2 = 0 ∧ c2 = 0) (N3 : A3 = none → n3 = 0 ∧ c3 = 0) (NE : A = none → n = 0 ∧ c = 0)
    (R1 : IRow w .u8 A1 n1 z1) (R2 : IRow w .u8 A2 n2 z2) (R3 : IRow w .u8 A3 n3 z3) (RE : ERow w A n es) (hl : ¬ (10000 < n1 ∨ 10000 < n2 ∨ 10000 < n3)) (hc : n ≤ 9223372036854775807) (hk : (chk es n).1 = 0) (hG : Good n es) :
    Calls Tryz.prog 8 #[.agg #[.slice A1 n1 c1, .slice A2 n2 c2, .slice A3 n3 c3], .slice A n c] w (NewHR ⟨n, es, n1, z1, n2, z2, n3, z3⟩ w) := by
  have hlb : longB n1 n2 n3 = false := decide_eq_false hl
  have hchk := fcheck_any (w := (w.alloc (.cells #[.slice A1 n1 c1, .slice A2 n2 c2, .slice A3 n3 c3] 25)).alloc (.cells #[.int .i64 0, .int .i64 0] 34)) A1 A2 A3 n1 n2 n3 c1 c2 c3 (by omega) (by omega) (by omega)
  rw [hlb] at hchk
  have HCHK := Lib.hid hchk
  have hb1 : Below w.heap.size w ((w.alloc (.cells #[.slice A1 n1 c1, .slice A2 n2 c2, .slice A3 n3 c3] 25)).alloc (.cells #[.int .i64 0, .int .i64 0] 34)) := ((Below.refl _ _).alloc (Nat.le_refl _) _).alloc (by simp) _
  have F0 := Lib.hid ((Blk.new w 25 #[.slice A1 n1 c1, .slice A2 n2 c2, .slice A3 n3 c3]).alloc (.cells #[.int .i64 0, .int .i64 0] 34))
  have G0 := Lib.hid (Blk.new (w.alloc (.cells #[.slice A1 n1 c1, .slice A2 n2 c2, .slice A3 n3 c3] 25)) 34 #[.int .i64 0, .int .i64 0])
  rw [World.size_alloc] at G0
  have HB := Lib.hid hb1
  have HR1 := Lib.hid R1
  have HR2 := Lib.hid R2
  have HR3 := Lib.hid R3
  have HRE := Lib.hid RE
  have HN1 := Lib.hid N1
  have HN2 := Lib.hid N2
  have HN3 := Lib.hid N3
  have HNE := Lib.hid NE
  have HK := Lib.hid hk
  have HG := Lib.hid hG
  have hn : n1 ≤ 10000 ∧ n2 ≤ 10000 ∧ n3 ≤ 10000 := by omega
  clear hlb hchk hb1 R1 R2 R3 RE N1 N2 N3 NE hk hG hl
  go_enter Tryz.func8, Tryz.ntmps8
  go_wp2_with fail
  obtain ⟨B, hBB⟩ : ∃ B, w.heap.size = B := ⟨_, rfl⟩
  have HBB := Lib.hid hBB
  rw [hBB] at F0 G0 HB
  simp only [hBB]
  clear hBB
  generalize World.alloc _ _ = w1 at *
  refine HCHK.out.mono ?_
  rintro e w2 ⟨rfl, b2⟩
  have s1 : B + 1 < w1.heap.size := G0.out.lt
  have HB2 := Lib.hid (HB.out.trans (b2.mono (by omega)))
  have F2 := Lib.hid (F0.out.below b2 F0.out.lt)
  have G2 := Lib.hid (G0.out.below b2 G0.out.lt)
  clear b2 HB F0 G0 HCHK s1
  go_wp2_with fail
  refine (lnew_yes HNE.out (FRow.keep HRE.out (by rw [HBB.out]; exact HB2.out)) hc HK.out).mono ?_
  rintro e w3 ⟨gl, rfl, hgl, ⟨_, Ae, ce, y1, y2⟩, b3⟩
  have s2 : B + 1 < w2.heap.size := G2.out.lt
  have HB3 := Lib.hid (HB2.out.trans (b3.mono (by omega)))
  have F3 := Lib.hid (F2.out.below b3 F2.out.lt)
  have G3 := Lib.hid (G2.out.below b3 G2.out.lt)
  have L3 := Lib.hid y1
  have E3 := Lib.hid y2
  have hgB : B + 1 < gl := by omega
  clear b3 y1 y2 HB2 F2 G2 s2 hgl
  go_wp2_with fail
  have F4 : Hid (Blk (w3.alloc (.cells #[.int .i64 0, .int .i64 0] 34)).drew B 25 #[.slice A1 n1 c1, .slice A2 n2 c2, .slice A3 n3 c3]) := Lib.hid ((F3.out.alloc _).drew_)
  have G4 : Hid (Blk (w3.alloc (.cells #[.int .i64 0, .int .i64 0] 34)).drew (B + 1) 34 #[.int .i64 0, .int .i64 0]) := Lib.hid ((G3.out.alloc _).drew_)
  have L4 : Hid (Blk (w3.alloc (.cells #[.int .i64 0, .int .i64 0] 34)).drew gl 93 #[.slice Ae n ce, .int .i64 0, .bool false, .bool false, .bool false, .bool false, .bool false]) := Lib.hid ((L3.out.alloc _).drew_)
  have b4 : Below w3.heap.size w3 (w3.alloc (.cells #[.int .i64 0, .int .i64 0] 34)).drew := ((Below.refl _ _).alloc (Nat.le_refl _) _).drew
  have s3 : B + 1 < w3.heap.size := G3.out.lt
  have HB4 := Lib.hid (HB3.out.trans (b4.mono (by omega)))
  have E4 := Lib.hid (E3.out.keep b4)
  have FF := F4
  have GG := G4
  have LL := L4
  have EE := E4
  have BB := HB4
  have s4 : B + 1 < (w3.alloc (.cells #[.int .i64 0, .int .i64 0] 34)).drew.heap.size := G4.out.lt
  clear F3 G3 L3 b4 s3 HB3 E3 F4 G4 L4 HB4 E4
  refine rg_begin (S := fun w' => w'.cell? ⟨B, 0, none⟩ = some (.slice A1 n1 c1) ∧ w'.cell? ⟨B, 1, none⟩ = some (.slice A2 n2 c2) ∧ w'.cell? ⟨B, 2, none⟩ = some (.slice A3 n3 c3) ∧ Blk w' gl 93 #[.slice Ae n ce, .int .i64 0, .bool false, .bool false, .bool false, .bool false, .bool false]) 32 #[false, false, false, false, false, false, false, false, false, false, false, false, false, false, false, false, false, false, false, false, false, false, false, false, false, false, false, false, false, false, false, false] (by kernel_rfl) (by kernel_rfl) (by kernel_rfl) ?_ (fun hHeld => ?_)
  · exact ⟨FF.out.cell 0, FF.out.cell 1, FF.out.cell 2, LL.out⟩
  generalize (World.alloc w3 _).drew = w5 at *
  refine rg_take (i := 3) (d := some 27) (l := #[false, false, false, true, false, false, false, false, false, false, false, false, false, false, false, false, false, false, false, false, false, false, false, false, false, false, false, false, false, false, false, false]) (fuel := 31) (v := ?_) rfl (by kernel_rfl) (by kernel_rfl) (by kernel_rfl) (by kernel_rfl) (by kernel_rfl) (fun _ _ _ h => h) (by kernel_rfl) ?_ (by assumption) ?_
  rotate_left 1
  · (intro wS hSw; (try dsimp only at hSw); go_simp; try with_reducible rfl)
  try simp only [Act.put, List.setIfInBounds_toArray, List.set_cons_zero, List.set_cons_succ]
  refine rg_take (i := 4) (d := some 28) (l := #[false, false, false, true, true, false, false, false, false, false, false, false, false, false, false, false, false, false, false, false, false, false, false, false, false, false, false, false, false, false, false, false]) (fuel := 30) (v := ?_) rfl (by kernel_rfl) (by kernel_rfl) (by kernel_rfl) (by kernel_rfl) (by kernel_rfl) (fun _ _ _ h => h) (by kernel_rfl) ?_ (by assumption) ?_
  rotate_left 1
  · (intro wS hSw; (try dsimp only at hSw); go_simp; try with_reducible rfl)
  try simp only [Act.put, List.setIfInBounds_toArray, List.set_cons_zero, List.set_cons_succ]
  refine rg_take (i := 12) (d := some 36) (l := #[false, false, false, true, true, false, false, false, false, false, false, false, true, false, false, false, false, false, false, false, false, false, false, false, false, false, false, false, false, false, false, false]) (fuel := 29) (v := ?_) rfl (by kernel_rfl) (by kernel_rfl) (by kernel_rfl) (by kernel_rfl) (by kernel_rfl) (fun _ _ _ h => h) (by kernel_rfl) ?_ (by assumption) ?_
  rotate_left 1
  · (intro wS hSw; (try dsimp only at hSw); go_simp; try with_reducible rfl)
  try simp only [Act.put, List.setIfInBounds_toArray, List.set_cons_zero, List.set_cons_succ]
  refine rg_take (i := 13) (d := some 37) (l := #[false, false, false, true, true, false, false, false, false, false, false, false, true, true, false, false, false, false, false, false, false, false, false, false, false, false, false, false, false, false, false, false]) (fuel := 28) (v := ?_) rfl (by kernel_rfl) (by kernel_rfl) (by kernel_rfl) (by kernel_rfl) (by kernel_rfl) (fun _ _ _ h => h) (by kernel_rfl) ?_ (by assumption) ?_
  rotate_left 1
  · (intro wS hSw; (try dsimp only at hSw); go_simp; try with_reducible rfl)
  try simp only [Act.put, List.setIfInBounds_toArray, List.set_cons_zero, List.set_cons_succ]
  refine rg_take (i := 17) (d := some 41) (l := #[false, false, false, true, true, false, false, false, false, false, false, false, true, true, false, false, false, true, false, false, false, false, false, false, false, false, false, false, false, false, false, false]) (fuel := 27) (v := ?_) rfl (by kernel_rfl) (by kernel_rfl) (by kernel_rfl) (by kernel_rfl) (by kernel_rfl) (fun _ _ _ h => h) (by kernel_rfl) ?_ (by assumption) ?_
  rotate_left 1
  · (intro wS hSw; (try dsimp only at hSw); go_simp; try with_reducible rfl)
  try simp only [Act.put, List.setIfInBounds_toArray, List.set_cons_zero, List.set_cons_succ]
  refine rg_take (i := 18) (d := some 42) (l := #[false, false, false, true, true, false, false, false, false, false, false, false, true, true, false, false, false, true, true, false, false, false, false, false, false, false, false, false, false, false, false, false]) (fuel := 26) (v := ?_) rfl (by kernel_rfl) (by kernel_rfl) (by kernel_rfl) (by kernel_rfl) (by kernel_rfl) (fun _ _ _ h => h) (by kernel_rfl) ?_ (by assumption) ?_
  rotate_left 1
  · (intro wS hSw; (try dsimp only at hSw); go_simp; try with_reducible rfl)
  try simp only [Act.put, List.setIfInBounds_toArray, List.set_cons_zero, List.set_cons_succ]
  refine rg_take (i := 22) (d := some 46) (l := #[false, false, false, true, true, false, false, false, false, false, false, false, true, true, false, false, false, true, true, false, false, false, true, false, false, false, false, false, false, false, false, false]) (fuel := 25) (v := ?_) rfl (by kernel_rfl) (by kernel_rfl) (by kernel_rfl) (by kernel_rfl) (by kernel_rfl) (fun _ _ _ h => h) (by kernel_rfl) ?_ (by assumption) ?_
  rotate_left 1
  · (intro wS hSw; (try dsimp only at hSw); go_simp; try with_reducible rfl)
  try simp only [Act.put, List.setIfInBounds_toArray, List.set_cons_zero, List.set_cons_succ]
  refine rg_take (i := 23) (d := some 47) (l := #[false, false, false, true, true, false, false, false, false, false, false, false, true, true, false, false, false, true, true, false, false, false, true, true, false, false, false, false, false, false, false, false]) (fuel := 24) (v := ?_) rfl (by kernel_rfl) (by kernel_rfl) (by kernel_rfl) (by kernel_rfl) (by kernel_rfl) (fun _ _ _ h => h) (by kernel_rfl) ?_ (by assumption) ?_
  rotate_left 1
  · (intro wS hSw; (try dsimp only at hSw); go_simp; try with_reducible rfl)
  try simp only [Act.put, List.setIfInBounds_toArray, List.set_cons_zero, List.set_cons_succ]
  refine rg_take (i := 29) (d := some 53) (l := #[false, false, false, true, true, false, false, false, false, false, false, false, true, true, false, false, false, true, true, false, false, false, true, true, false, false, false, false, false, true, false, false]) (fuel := 23) (v := ?_) rfl (by kernel_rfl) (by kernel_rfl) (by kernel_rfl) (by kernel_rfl) (by kernel_rfl) (fun _ _ _ h => h) (by kernel_rfl) ?_ (by assumption) ?_
  rotate_left 1
  · (intro wS hSw; (try dsimp only at hSw); go_simp; try with_reducible rfl)
  try simp only [Act.put, List.setIfInBounds_toArray, List.set_cons_zero, List.set_cons_succ]
  refine rg_take (i := 5) (d := some 29) (l := #[false, false, false, true, true, true, false, false, false, false, false, false, true, true, false, false, false, true, true, false, false, false, true, true, false, false, false, false, false, true, false, false]) (fuel := 22) (v := .agg #[.slice Ae n ce, .int .i64 0, .bool false, .bool false, .bool false, .bool false, .bool false]) rfl (by kernel_rfl) (by kernel_rfl) (by kernel_rfl) (by kernel_rfl) (by kernel_rfl) (fun _ _ _ h => h) (by kernel_rfl) ?_ (by assumption) ?_
  · (intro wS hSw; (try dsimp only at hSw); exact exec_load_row 93 (.tmp 28) rfl gl rfl 93 #[.slice Ae n ce, .int .i64 0, .bool false, .bool false, .bool false, .bool false, .bool false] (0, 0) _ hSw.2.2.2 Tryz.underlying93 rfl (by kernel_rfl))
  try simp only [Act.put, List.setIfInBounds_toArray, List.set_cons_zero, List.set_cons_succ]
  refine rg_next (i := 0) (l := #[true, false, false, true, true, true, false, false, false, false, false, false, true, true, false, false, false, true, true, false, false, false, true, true, false, false, false, false, false, true, false, false]) (fuel := 21) (by kernel_rfl) rfl (by kernel_rfl) (by kernel_rfl) (fun K hK => ?_)
  go_simp
  (go_at_call 41)
  refine (tnew_any w5).mono ?_
  rintro e w6 ⟨rfl, y1, b6⟩
  obtain ⟨gt, hgt⟩ : ∃ gt, w5.heap.size = gt := ⟨_, rfl⟩
  have N1 : Hid (Blk w6 gt 88 #[.int .i64 0, .int .u8 0, .int .u8 0, .bool false]) := Lib.hid (hgt ▸ y1.1)
  simp only [hgt]
  have v1 : B + 1 < gt := by omega
  clear y1 hgt
  have BB' := Lib.hid (BB.out.trans (b6.mono (by omega)))
  replace FF := Lib.hid (FF.out.below b6 FF.out.lt)
  replace GG := Lib.hid (GG.out.below b6 GG.out.lt)
  replace LL := Lib.hid (LL.out.below b6 LL.out.lt)
  replace EE := Lib.hid (EE.out.keep b6)
  clear BB
  have BB := BB'
  clear BB' b6
  have s6 : gt < w6.heap.size := N1.out.lt
  clear s4
  first | (refine hK.out _ _ ?_ (fun hHeld => ?_)) | (go_wp2_with fail; refine hK.out _ _ ?_ (fun hHeld => ?_))
  · (try dsimp only); exact ⟨FF.out.cell 0, FF.out.cell 1, FF.out.cell 2, LL.out⟩
  clear hK K
  try simp only [Act.put, List.setIfInBounds_toArray, List.set_cons_zero, List.set_cons_succ]
  refine rg_take (i := 1) (d := some 25) (l := #[true, true, false, true, true, true, false, false, false, false, false, false, true, true, false, false, false, true, true, false, false, false, true, true, false, false, false, false, false, true, false, false]) (fuel := 20) (v := ?_) rfl (by kernel_rfl) (by kernel_rfl) (by kernel_rfl) (by kernel_rfl) (by kernel_rfl) (fun _ _ _ h => h) (by kernel_rfl) ?_ (by assumption) ?_
  rotate_left 1
  · (intro wS hSw; (try dsimp only at hSw); go_simp; try with_reducible rfl)
  try simp only [Act.put, List.setIfInBounds_toArray, List.set_cons_zero, List.set_cons_succ]
  refine rg_more (S' := fun w' => Blk w' gt 88 #[.int .i64 0, .int .u8 0, .int .u8 0, .bool false] ∧ w'.cell? ⟨B, 0, none⟩ = some (.slice A1 n1 c1) ∧ w'.cell? ⟨B, 1, none⟩ = some (.slice A2 n2 c2) ∧ w'.cell? ⟨B, 2, none⟩ = some (.slice A3 n3 c3) ∧ Blk w' gl 93 #[.slice Ae n ce, .int .i64 0, .bool false, .bool false, .bool false, .bool false, .bool false]) (fun w h => h.2) _ _ _ _ ?_
  clear hHeld
  have hHeld : (fun w' : World => Blk w' gt 88 #[.int .i64 0, .int .u8 0, .int .u8 0, .bool false] ∧ w'.cell? ⟨B, 0, none⟩ = some (.slice A1 n1 c1) ∧ w'.cell? ⟨B, 1, none⟩ = some (.slice A2 n2 c2) ∧ w'.cell? ⟨B, 2, none⟩ = some (.slice A3 n3 c3) ∧ Blk w' gl 93 #[.slice Ae n ce, .int .i64 0, .bool false, .bool false, .bool false, .bool false, .bool false]) _ := ⟨N1.out, FF.out.cell 0, FF.out.cell 1, FF.out.cell 2, LL.out⟩
  refine rg_take (i := 2) (d := some 26) (l := #[true, true, true, true, true, true, false, false, false, false, false, false, true, true, false, false, false, true, true, false, false, false, true, true, false, false, false, false, false, true, false, false]) (fuel := 19) (v := .agg #[.int .i64 0, .int .u8 0, .int .u8 0, .bool false]) rfl (by kernel_rfl) (by kernel_rfl) (by kernel_rfl) (by kernel_rfl) (by kernel_rfl) (fun _ _ _ h => h) (by kernel_rfl) ?_ (by assumption) ?_
  · (intro wS hSw; (try dsimp only at hSw); exact exec_load_row 88 (.tmp 25) rfl gt rfl 88 #[.int .i64 0, .int .u8 0, .int .u8 0, .bool false] (0, 0) _ hSw.1 Tryz.underlying88 rfl (by kernel_rfl))
  try simp only [Act.put, List.setIfInBounds_toArray, List.set_cons_zero, List.set_cons_succ]
  refine rg_next (i := 6) (l := #[true, true, true, true, true, true, true, false, false, false, false, false, true, true, false, false, false, true, true, false, false, false, true, true, false, false, false, false, false, true, false, false]) (fuel := 18) (by kernel_rfl) rfl (by kernel_rfl) (by kernel_rfl) (fun K hK => ?_)
  go_simp
  (go_at_call 42)
  refine (lnew_any 0 w6).mono ?_
  rintro e w7 ⟨rfl, y1⟩
  have b7 : Below w6.heap.size w6 w7 := y1 ▸ (Below.refl _ _).alloc (Nat.le_refl _) _
  obtain ⟨gb, hgb⟩ : ∃ gb, w6.heap.size = gb := ⟨_, rfl⟩
  have N3 : Hid (Blk w7 gb 95 #[.int .u8 0]) := Lib.hid (by rw [y1]; exact Blk.new_ hgb.symm)
  clear y1
  simp only [hgb]
  have v3 : B + 1 < gb := by omega
  clear hgb
  have BB' := Lib.hid (BB.out.trans (b7.mono (by omega)))
  replace FF := Lib.hid (FF.out.below b7 FF.out.lt)
  replace GG := Lib.hid (GG.out.below b7 GG.out.lt)
  replace LL := Lib.hid (LL.out.below b7 LL.out.lt)
  replace EE := Lib.hid (EE.out.keep b7)
  replace N1 := Lib.hid (N1.out.below b7 N1.out.lt)
  clear BB
  have BB := BB'
  clear BB' b7
  have s7 : gb < w7.heap.size := N3.out.lt
  clear s6
  first | (refine hK.out _ _ ?_ (fun hHeld => ?_)) | (go_wp2_with fail; refine hK.out _ _ ?_ (fun hHeld => ?_))
  · (try dsimp only); exact ⟨N1.out, FF.out.cell 0, FF.out.cell 1, FF.out.cell 2, LL.out⟩
  clear hK K
  try simp only [Act.put, List.setIfInBounds_toArray, List.set_cons_zero, List.set_cons_succ]
  refine rg_take (i := 7) (d := some 31) (l := #[true, true, true, true, true, true, true, true, false, false, false, false, true, true, false, false, false, true, true, false, false, false, true, true, false, false, false, false, false, true, false, false]) (fuel := 17) (v := ?_) rfl (by kernel_rfl) (by kernel_rfl) (by kernel_rfl) (by kernel_rfl) (by kernel_rfl) (fun _ _ _ h => h) (by kernel_rfl) ?_ (by assumption) ?_
  rotate_left 1
  · (intro wS hSw; (try dsimp only at hSw); go_simp; try with_reducible rfl)
  try simp only [Act.put, List.setIfInBounds_toArray, List.set_cons_zero, List.set_cons_succ]
  refine rg_more (S' := fun w' => Blk w' gb 95 #[.int .u8 0] ∧ Blk w' gt 88 #[.int .i64 0, .int .u8 0, .int .u8 0, .bool false] ∧ w'.cell? ⟨B, 0, none⟩ = some (.slice A1 n1 c1) ∧ w'.cell? ⟨B, 1, none⟩ = some (.slice A2 n2 c2) ∧ w'.cell? ⟨B, 2, none⟩ = some (.slice A3 n3 c3) ∧ Blk w' gl 93 #[.slice Ae n ce, .int .i64 0, .bool false, .bool false, .bool false, .bool false, .bool false]) (fun w h => h.2) _ _ _ _ ?_
  clear hHeld
  have hHeld : (fun w' : World => Blk w' gb 95 #[.int .u8 0] ∧ Blk w' gt 88 #[.int .i64 0, .int .u8 0, .int .u8 0, .bool false] ∧ w'.cell? ⟨B, 0, none⟩ = some (.slice A1 n1 c1) ∧ w'.cell? ⟨B, 1, none⟩ = some (.slice A2 n2 c2) ∧ w'.cell? ⟨B, 2, none⟩ = some (.slice A3 n3 c3) ∧ Blk w' gl 93 #[.slice Ae n ce, .int .i64 0, .bool false, .bool false, .bool false, .bool false, .bool false]) _ := ⟨N3.out, N1.out, FF.out.cell 0, FF.out.cell 1, FF.out.cell 2, LL.out⟩
  refine rg_take (i := 8) (d := some 32) (l := #[true, true, true, true, true, true, true, true, true, false, false, false, true, true, false, false, false, true, true, false, false, false, true, true, false, false, false, false, false, true, false, false]) (fuel := 16) (v := .agg #[.int .u8 0]) rfl (by kernel_rfl) (by kernel_rfl) (by kernel_rfl) (by kernel_rfl) (by kernel_rfl) (fun _ _ _ h => h) (by kernel_rfl) ?_ (by assumption) ?_
  · (intro wS hSw; (try dsimp only at hSw); exact exec_load_row 95 (.tmp 31) rfl gb rfl 95 #[.int .u8 0] (0, 0) _ hSw.1 Tryz.underlying95 rfl (by kernel_rfl))
  try simp only [Act.put, List.setIfInBounds_toArray, List.set_cons_zero, List.set_cons_succ]
  refine rg_next (i := 9) (l := #[true, true, true, true, true, true, true, true, true, true, false, false, true, true, false, false, false, true, true, false, false, false, true, true, false, false, false, false, false, true, false, false]) (fuel := 15) (by kernel_rfl) rfl (by kernel_rfl) (by kernel_rfl) (fun K hK => ?_)
  go_simp
  (go_at_call 43)
  refine (qnew_any w7).mono ?_
  rintro e w8 ⟨rfl, y1, b8⟩
  obtain ⟨gi, hgi⟩ : ∃ gi, w7.heap.size = gi := ⟨_, rfl⟩
  have N4 : Hid (Blk w8 gi 99 #[.int .u8 0, .bool false]) := Lib.hid (hgi ▸ y1.1)
  simp only [hgi]
  have v4 : B + 1 < gi := by omega
  clear y1 hgi
  have BB' := Lib.hid (BB.out.trans (b8.mono (by omega)))
  replace FF := Lib.hid (FF.out.below b8 FF.out.lt)
  replace GG := Lib.hid (GG.out.below b8 GG.out.lt)
  replace LL := Lib.hid (LL.out.below b8 LL.out.lt)
  replace EE := Lib.hid (EE.out.keep b8)
  replace N1 := Lib.hid (N1.out.below b8 N1.out.lt)
  replace N3 := Lib.hid (N3.out.below b8 N3.out.lt)
  clear BB
  have BB := BB'
  clear BB' b8
  have s8 : gi < w8.heap.size := N4.out.lt
  clear s7
  first | (refine hK.out _ _ ?_ (fun hHeld => ?_)) | (go_wp2_with fail; refine hK.out _ _ ?_ (fun hHeld => ?_))
  · (try dsimp only); exact ⟨N3.out, N1.out, FF.out.cell 0, FF.out.cell 1, FF.out.cell 2, LL.out⟩
  clear hK K
  try simp only [Act.put, List.setIfInBounds_toArray, List.set_cons_zero, List.set_cons_succ]
  refine rg_take (i := 10) (d := some 34) (l := #[true, true, true, true, true, true, true, true, true, true, true, false, true, true, false, false, false, true, true, false, false, false, true, true, false, false, false, false, false, true, false, false]) (fuel := 14) (v := ?_) rfl (by kernel_rfl) (by kernel_rfl) (by kernel_rfl) (by kernel_rfl) (by kernel_rfl) (fun _ _ _ h => h) (by kernel_rfl) ?_ (by assumption) ?_
  rotate_left 1
  · (intro wS hSw; (try dsimp only at hSw); go_simp; try with_reducible rfl)
  try simp only [Act.put, List.setIfInBounds_toArray, List.set_cons_zero, List.set_cons_succ]
  refine rg_more (S' := fun w' => Blk w' gi 99 #[.int .u8 0, .bool false] ∧ Blk w' gb 95 #[.int .u8 0] ∧ Blk w' gt 88 #[.int .i64 0, .int .u8 0, .int .u8 0, .bool false] ∧ w'.cell? ⟨B, 0, none⟩ = some (.slice A1 n1 c1) ∧ w'.cell? ⟨B, 1, none⟩ = some (.slice A2 n2 c2) ∧ w'.cell? ⟨B, 2, none⟩ = some (.slice A3 n3 c3) ∧ Blk w' gl 93 #[.slice Ae n ce, .int .i64 0, .bool false, .bool false, .bool false, .bool false, .bool false]) (fun w h => h.2) _ _ _ _ ?_
  clear hHeld
  have hHeld : (fun w' : World => Blk w' gi 99 #[.int .u8 0, .bool false] ∧ Blk w' gb 95 #[.int .u8 0] ∧ Blk w' gt 88 #[.int .i64 0, .int .u8 0, .int .u8 0, .bool false] ∧ w'.cell? ⟨B, 0, none⟩ = some (.slice A1 n1 c1) ∧ w'.cell? ⟨B, 1, none⟩ = some (.slice A2 n2 c2) ∧ w'.cell? ⟨B, 2, none⟩ = some (.slice A3 n3 c3) ∧ Blk w' gl 93 #[.slice Ae n ce, .int .i64 0, .bool false, .bool false, .bool false, .bool false, .bool false]) _ := ⟨N4.out, N3.out, N1.out, FF.out.cell 0, FF.out.cell 1, FF.out.cell 2, LL.out⟩
  refine rg_take (i := 11) (d := some 35) (l := #[true, true, true, true, true, true, true, true, true, true, true, true, true, true, false, false, false, true, true, false, false, false, true, true, false, false, false, false, false, true, false, false]) (fuel := 13) (v := .agg #[.int .u8 0, .bool false]) rfl (by kernel_rfl) (by kernel_rfl) (by kernel_rfl) (by kernel_rfl) (by kernel_rfl) (fun _ _ _ h => h) (by kernel_rfl) ?_ (by assumption) ?_
  · (intro wS hSw; (try dsimp only at hSw); exact exec_load_row 99 (.tmp 34) rfl gi rfl 99 #[.int .u8 0, .bool false] (0, 0) _ hSw.1 Tryz.underlying99 rfl (by kernel_rfl))
  try simp only [Act.put, List.setIfInBounds_toArray, List.set_cons_zero, List.set_cons_succ]
  refine rg_next (i := 14) (l := #[true, true, true, true, true, true, true, true, true, true, true, true, true, true, true, false, false, true, true, false, false, false, true, true, false, false, false, false, false, true, false, false]) (fuel := 12) (by kernel_rfl) rfl (by kernel_rfl) (by kernel_rfl) (fun K hK => ?_)
  go_simp
  (go_at_call 44)
  refine (pnew_any A3 n3 c3 z3 HN3.out (by omega) (HR3.out.keep (by rw [HBB.out]; exact BB.out))).mono ?_
  rintro e w9 ⟨gp, bp, rfl, r1, r2, y1, b9⟩
  have N5 : Hid (Blk w9 gp 106 #[giveV bp, .int .i64 0, .int .u8 0, .int .i64 0]) := Lib.hid y1.1.1
  have M5 : Hid (Box w9 bp (n3 - 0) (fun i => z3 (0 + i))) := Lib.hid y1.1.2.2
  have v5 : B + 1 < gp ∧ B + 1 < bp := by omega
  have s9 : bp < w9.heap.size := PT.ltc y1
  clear y1
  have BB' := Lib.hid (BB.out.trans (b9.mono (by omega)))
  replace FF := Lib.hid (FF.out.below b9 FF.out.lt)
  replace GG := Lib.hid (GG.out.below b9 GG.out.lt)
  replace LL := Lib.hid (LL.out.below b9 LL.out.lt)
  replace EE := Lib.hid (EE.out.keep b9)
  replace N1 := Lib.hid (N1.out.below b9 N1.out.lt)
  replace N3 := Lib.hid (N3.out.below b9 N3.out.lt)
  replace N4 := Lib.hid (N4.out.below b9 N4.out.lt)
  clear BB
  have BB := BB'
  clear BB' b9
  clear s8 r1 r2
  first | (refine hK.out _ _ ?_ (fun hHeld => ?_)) | (go_wp2_with fail; refine hK.out _ _ ?_ (fun hHeld => ?_))
  · (try dsimp only); exact ⟨N4.out, N3.out, N1.out, FF.out.cell 0, FF.out.cell 1, FF.out.cell 2, LL.out⟩
  clear hK K
  try simp only [Act.put, List.setIfInBounds_toArray, List.set_cons_zero, List.set_cons_succ]
  refine rg_take (i := 15) (d := some 39) (l := #[true, true, true, true, true, true, true, true, true, true, true, true, true, true, true, true, false, true, true, false, false, false, true, true, false, false, false, false, false, true, false, false]) (fuel := 11) (v := ?_) rfl (by kernel_rfl) (by kernel_rfl) (by kernel_rfl) (by kernel_rfl) (by kernel_rfl) (fun _ _ _ h => h) (by kernel_rfl) ?_ (by assumption) ?_
  rotate_left 1
  · (intro wS hSw; (try dsimp only at hSw); go_simp; try with_reducible rfl)
  try simp only [Act.put, List.setIfInBounds_toArray, List.set_cons_zero, List.set_cons_succ]
  refine rg_more (S' := fun w' => Blk w' gp 106 #[giveV bp, .int .i64 0, .int .u8 0, .int .i64 0] ∧ Blk w' gi 99 #[.int .u8 0, .bool false] ∧ Blk w' gb 95 #[.int .u8 0] ∧ Blk w' gt 88 #[.int .i64 0, .int .u8 0, .int .u8 0, .bool false] ∧ w'.cell? ⟨B, 0, none⟩ = some (.slice A1 n1 c1) ∧ w'.cell? ⟨B, 1, none⟩ = some (.slice A2 n2 c2) ∧ w'.cell? ⟨B, 2, none⟩ = some (.slice A3 n3 c3) ∧ Blk w' gl 93 #[.slice Ae n ce, .int .i64 0, .bool false, .bool false, .bool false, .bool false, .bool false]) (fun w h => h.2) _ _ _ _ ?_
  clear hHeld
  have hHeld : (fun w' : World => Blk w' gp 106 #[giveV bp, .int .i64 0, .int .u8 0, .int .i64 0] ∧ Blk w' gi 99 #[.int .u8 0, .bool false] ∧ Blk w' gb 95 #[.int .u8 0] ∧ Blk w' gt 88 #[.int .i64 0, .int .u8 0, .int .u8 0, .bool false] ∧ w'.cell? ⟨B, 0, none⟩ = some (.slice A1 n1 c1) ∧ w'.cell? ⟨B, 1, none⟩ = some (.slice A2 n2 c2) ∧ w'.cell? ⟨B, 2, none⟩ = some (.slice A3 n3 c3) ∧ Blk w' gl 93 #[.slice Ae n ce, .int .i64 0, .bool false, .bool false, .bool false, .bool false, .bool false]) _ := ⟨N5.out, N4.out, N3.out, N1.out, FF.out.cell 0, FF.out.cell 1, FF.out.cell 2, LL.out⟩
  refine rg_take (i := 16) (d := some 40) (l := #[true, true, true, true, true, true, true, true, true, true, true, true, true, true, true, true, true, true, true, false, false, false, true, true, false, false, false, false, false, true, false, false]) (fuel := 10) (v := .agg #[giveV bp, .int .i64 0, .int .u8 0, .int .i64 0]) rfl (by kernel_rfl) (by kernel_rfl) (by kernel_rfl) (by kernel_rfl) (by kernel_rfl) (fun _ _ _ h => h) (by kernel_rfl) ?_ (by assumption) ?_
  · (intro wS hSw; (try dsimp only at hSw); exact exec_load_row 106 (.tmp 39) rfl gp rfl 106 #[giveV bp, .int .i64 0, .int .u8 0, .int .i64 0] (0, 0) _ hSw.1 Tryz.underlying106 rfl (by kernel_rfl))
  try simp only [Act.put, List.setIfInBounds_toArray, List.set_cons_zero, List.set_cons_succ]
  refine rg_next (i := 19) (l := #[true, true, true, true, true, true, true, true, true, true, true, true, true, true, true, true, true, true, true, true, false, false, true, true, false, false, false, false, false, true, false, false]) (fuel := 9) (by kernel_rfl) rfl (by kernel_rfl) (by kernel_rfl) (fun K hK => ?_)
  go_simp
  (go_at_call 45)
  refine (new_any A1 n1 c1 z1 HN1.out (by omega) (HR1.out.keep (by rw [HBB.out]; exact BB.out))).mono ?_
  rintro e w10 ⟨gv, bv, rfl, r1, r2, r3, r4, y1, b10⟩
  have N6 : Hid (Blk w10 gv 104 #[giveV bv, .int .i64 0]) := Lib.hid y1.1
  have M6 : Hid (Box w10 bv (n1 - 0) (fun i => z1 (0 + i))) := Lib.hid (by obtain ⟨_, v, h1, h2⟩ := y1; exact ⟨v, h1, by simpa using h2⟩)
  have v6 : B + 1 < gv ∧ B + 1 < bv ∧ bp < bv := by omega
  clear y1
  have BB' := Lib.hid (BB.out.trans (b10.mono (by omega)))
  replace FF := Lib.hid (FF.out.below b10 FF.out.lt)
  replace GG := Lib.hid (GG.out.below b10 GG.out.lt)
  replace LL := Lib.hid (LL.out.below b10 LL.out.lt)
  replace EE := Lib.hid (EE.out.keep b10)
  replace N1 := Lib.hid (N1.out.below b10 N1.out.lt)
  replace N3 := Lib.hid (N3.out.below b10 N3.out.lt)
  replace N4 := Lib.hid (N4.out.below b10 N4.out.lt)
  replace N5 := Lib.hid (N5.out.below b10 N5.out.lt)
  replace M5 := Lib.hid (M5.out.kp (Kp.of_below (L := []) b10) (fun y hy => by cases hy) (by simp))
  clear BB
  have BB := BB'
  clear BB' b10
  clear s9 r1 r2 r3
  first | (refine hK.out _ _ ?_ (fun hHeld => ?_)) | (go_wp2_with fail; refine hK.out _ _ ?_ (fun hHeld => ?_))
  · (try dsimp only); exact ⟨N5.out, N4.out, N3.out, N1.out, FF.out.cell 0, FF.out.cell 1, FF.out.cell 2, LL.out⟩
  clear hK K
  try simp only [Act.put, List.setIfInBounds_toArray, List.set_cons_zero, List.set_cons_succ]
  refine rg_take (i := 20) (d := some 44) (l := #[true, true, true, true, true, true, true, true, true, true, true, true, true, true, true, true, true, true, true, true, true, false, true, true, false, false, false, false, false, true, false, false]) (fuel := 8) (v := ?_) rfl (by kernel_rfl) (by kernel_rfl) (by kernel_rfl) (by kernel_rfl) (by kernel_rfl) (fun _ _ _ h => h) (by kernel_rfl) ?_ (by assumption) ?_
  rotate_left 1
  · (intro wS hSw; (try dsimp only at hSw); go_simp; try with_reducible rfl)
  try simp only [Act.put, List.setIfInBounds_toArray, List.set_cons_zero, List.set_cons_succ]
  refine rg_more (S' := fun w' => Blk w' gv 104 #[giveV bv, .int .i64 0] ∧ Blk w' gp 106 #[giveV bp, .int .i64 0, .int .u8 0, .int .i64 0] ∧ Blk w' gi 99 #[.int .u8 0, .bool false] ∧ Blk w' gb 95 #[.int .u8 0] ∧ Blk w' gt 88 #[.int .i64 0, .int .u8 0, .int .u8 0, .bool false] ∧ w'.cell? ⟨B, 0, none⟩ = some (.slice A1 n1 c1) ∧ w'.cell? ⟨B, 1, none⟩ = some (.slice A2 n2 c2) ∧ w'.cell? ⟨B, 2, none⟩ = some (.slice A3 n3 c3) ∧ Blk w' gl 93 #[.slice Ae n ce, .int .i64 0, .bool false, .bool false, .bool false, .bool false, .bool false]) (fun w h => h.2) _ _ _ _ ?_
  clear hHeld
  have hHeld : (fun w' : World => Blk w' gv 104 #[giveV bv, .int .i64 0] ∧ Blk w' gp 106 #[giveV bp, .int .i64 0, .int .u8 0, .int .i64 0] ∧ Blk w' gi 99 #[.int .u8 0, .bool false] ∧ Blk w' gb 95 #[.int .u8 0] ∧ Blk w' gt 88 #[.int .i64 0, .int .u8 0, .int .u8 0, .bool false] ∧ w'.cell? ⟨B, 0, none⟩ = some (.slice A1 n1 c1) ∧ w'.cell? ⟨B, 1, none⟩ = some (.slice A2 n2 c2) ∧ w'.cell? ⟨B, 2, none⟩ = some (.slice A3 n3 c3) ∧ Blk w' gl 93 #[.slice Ae n ce, .int .i64 0, .bool false, .bool false, .bool false, .bool false, .bool false]) _ := ⟨N6.out, N5.out, N4.out, N3.out, N1.out, FF.out.cell 0, FF.out.cell 1, FF.out.cell 2, LL.out⟩
  refine rg_take (i := 21) (d := some 45) (l := #[true, true, true, true, true, true, true, true, true, true, true, true, true, true, true, true, true, true, true, true, true, true, true, true, false, false, false, false, false, true, false, false]) (fuel := 7) (v := .agg #[giveV bv, .int .i64 0]) rfl (by kernel_rfl) (by kernel_rfl) (by kernel_rfl) (by kernel_rfl) (by kernel_rfl) (fun _ _ _ h => h) (by kernel_rfl) ?_ (by assumption) ?_
  · (intro wS hSw; (try dsimp only at hSw); exact exec_load_row 104 (.tmp 44) rfl gv rfl 104 #[giveV bv, .int .i64 0] (0, 0) _ hSw.1 Tryz.underlying104 rfl (by kernel_rfl))
  try simp only [Act.put, List.setIfInBounds_toArray, List.set_cons_zero, List.set_cons_succ]
  refine rg_next (i := 24) (l := #[true, true, true, true, true, true, true, true, true, true, true, true, true, true, true, true, true, true, true, true, true, true, true, true, true, false, false, false, false, true, false, false]) (fuel := 6) (by kernel_rfl) rfl (by kernel_rfl) (by kernel_rfl) (fun K hK => ?_)
  go_simp
  (go_at_call 45)
  refine (new_any A2 n2 c2 z2 HN2.out (by omega) (HR2.out.keep (by rw [HBB.out]; exact BB.out))).mono ?_
  rintro e w11 ⟨gc, bc, rfl, r1, r2, r3, r5, y1, b11⟩
  have N7 : Hid (Blk w11 gc 104 #[giveV bc, .int .i64 0]) := Lib.hid y1.1
  have M7 : Hid (Box w11 bc (n2 - 0) (fun i => z2 (0 + i))) := Lib.hid (by obtain ⟨_, v, h1, h2⟩ := y1; exact ⟨v, h1, by simpa using h2⟩)
  have v7 : B + 1 < gc ∧ B + 1 < bc ∧ bv < bc ∧ bp < bc := by omega
  clear y1
  have BB' := Lib.hid (BB.out.trans (b11.mono (by omega)))
  replace FF := Lib.hid (FF.out.below b11 FF.out.lt)
  replace GG := Lib.hid (GG.out.below b11 GG.out.lt)
  replace LL := Lib.hid (LL.out.below b11 LL.out.lt)
  replace EE := Lib.hid (EE.out.keep b11)
  replace N1 := Lib.hid (N1.out.below b11 N1.out.lt)
  replace N3 := Lib.hid (N3.out.below b11 N3.out.lt)
  replace N4 := Lib.hid (N4.out.below b11 N4.out.lt)
  replace N5 := Lib.hid (N5.out.below b11 N5.out.lt)
  replace N6 := Lib.hid (N6.out.below b11 N6.out.lt)
  replace M5 := Lib.hid (M5.out.kp (Kp.of_below (L := []) b11) (fun y hy => by cases hy) (by simp))
  replace M6 := Lib.hid (M6.out.kp (Kp.of_below (L := []) b11) (fun y hy => by cases hy) (by simp))
  clear BB
  have BB := BB'
  clear BB' b11
  clear r1 r2 r3
  first | (refine hK.out _ _ ?_ (fun hHeld => ?_)) | (go_wp2_with fail; refine hK.out _ _ ?_ (fun hHeld => ?_))
  · (try dsimp only); exact ⟨N6.out, N5.out, N4.out, N3.out, N1.out, FF.out.cell 0, FF.out.cell 1, FF.out.cell 2, LL.out⟩
  clear hK K
  try simp only [Act.put, List.setIfInBounds_toArray, List.set_cons_zero, List.set_cons_succ]
  refine rg_take (i := 25) (d := some 49) (l := #[true, true, true, true, true, true, true, true, true, true, true, true, true, true, true, true, true, true, true, true, true, true, true, true, true, true, false, false, false, true, false, false]) (fuel := 5) (v := ?_) rfl (by kernel_rfl) (by kernel_rfl) (by kernel_rfl) (by kernel_rfl) (by kernel_rfl) (fun _ _ _ h => h) (by kernel_rfl) ?_ (by assumption) ?_
  rotate_left 1
  · (intro wS hSw; (try dsimp only at hSw); go_simp; try with_reducible rfl)
  try simp only [Act.put, List.setIfInBounds_toArray, List.set_cons_zero, List.set_cons_succ]
  refine rg_more (S' := fun w' => Blk w' gc 104 #[giveV bc, .int .i64 0] ∧ Blk w' gv 104 #[giveV bv, .int .i64 0] ∧ Blk w' gp 106 #[giveV bp, .int .i64 0, .int .u8 0, .int .i64 0] ∧ Blk w' gi 99 #[.int .u8 0, .bool false] ∧ Blk w' gb 95 #[.int .u8 0] ∧ Blk w' gt 88 #[.int .i64 0, .int .u8 0, .int .u8 0, .bool false] ∧ w'.cell? ⟨B, 0, none⟩ = some (.slice A1 n1 c1) ∧ w'.cell? ⟨B, 1, none⟩ = some (.slice A2 n2 c2) ∧ w'.cell? ⟨B, 2, none⟩ = some (.slice A3 n3 c3) ∧ Blk w' gl 93 #[.slice Ae n ce, .int .i64 0, .bool false, .bool false, .bool false, .bool false, .bool false]) (fun w h => h.2) _ _ _ _ ?_
  clear hHeld
  have hHeld : (fun w' : World => Blk w' gc 104 #[giveV bc, .int .i64 0] ∧ Blk w' gv 104 #[giveV bv, .int .i64 0] ∧ Blk w' gp 106 #[giveV bp, .int .i64 0, .int .u8 0, .int .i64 0] ∧ Blk w' gi 99 #[.int .u8 0, .bool false] ∧ Blk w' gb 95 #[.int .u8 0] ∧ Blk w' gt 88 #[.int .i64 0, .int .u8 0, .int .u8 0, .bool false] ∧ w'.cell? ⟨B, 0, none⟩ = some (.slice A1 n1 c1) ∧ w'.cell? ⟨B, 1, none⟩ = some (.slice A2 n2 c2) ∧ w'.cell? ⟨B, 2, none⟩ = some (.slice A3 n3 c3) ∧ Blk w' gl 93 #[.slice Ae n ce, .int .i64 0, .bool false, .bool false, .bool false, .bool false, .bool false]) _ := ⟨N7.out, N6.out, N5.out, N4.out, N3.out, N1.out, FF.out.cell 0, FF.out.cell 1, FF.out.cell 2, LL.out⟩
  refine rg_take (i := 26) (d := some 50) (l := #[true, true, true, true, true, true, true, true, true, true, true, true, true, true, true, true, true, true, true, true, true, true, true, true, true, true, true, false, false, true, false, false]) (fuel := 4) (v := .agg #[giveV bc, .int .i64 0]) rfl (by kernel_rfl) (by kernel_rfl) (by kernel_rfl) (by kernel_rfl) (by kernel_rfl) (fun _ _ _ h => h) (by kernel_rfl) ?_ (by assumption) ?_
  · (intro wS hSw; (try dsimp only at hSw); exact exec_load_row 104 (.tmp 49) rfl gc rfl 104 #[giveV bc, .int .i64 0] (0, 0) _ hSw.1 Tryz.underlying104 rfl (by kernel_rfl))
  try simp only [Act.put, List.setIfInBounds_toArray, List.set_cons_zero, List.set_cons_succ]
  refine rg_take (i := 27) (d := some 51) (l := #[true, true, true, true, true, true, true, true, true, true, true, true, true, true, true, true, true, true, true, true, true, true, true, true, true, true, true, true, false, true, false, false]) (fuel := 3) (v := ?_) rfl (by kernel_rfl) (by kernel_rfl) (by kernel_rfl) (by kernel_rfl) (by kernel_rfl) (fun _ _ _ h => h) (by kernel_rfl) ?_ (by assumption) ?_
  rotate_left 1
  · (intro wS hSw; (try dsimp only at hSw); go_simp; try with_reducible rfl)
  try simp only [Act.put, List.setIfInBounds_toArray, List.set_cons_zero, List.set_cons_succ]
  unfold giveV
  refine rg_next (i := 28) (l := #[true, true, true, true, true, true, true, true, true, true, true, true, true, true, true, true, true, true, true, true, true, true, true, true, true, true, true, true, true, true, false, false]) (fuel := 2) (by kernel_rfl) rfl (by kernel_rfl) (by kernel_rfl) (fun K hK => ?_)
  go_simp
  have b12 : Below w11.heap.size w11 (w11.alloc (.cells (hpC ⟨n, es, n1, z1, n2, z2, n3, z3⟩ ⟨bv, bc, bp⟩ Ae ce Hp.new) 112)) := (Below.refl _ _).alloc (Nat.le_refl _) _
  have N8 := Lib.hid (Blk.new w11 112 (hpC ⟨n, es, n1, z1, n2, z2, n3, z3⟩ ⟨bv, bc, bp⟩ Ae ce Hp.new))
  have O8 : Hid (HPo (w11.alloc (.cells (hpC ⟨n, es, n1, z1, n2, z2, n3, z3⟩ ⟨bv, bc, bp⟩ Ae ce Hp.new) 112)) ⟨n, es, n1, z1, n2, z2, n3, z3⟩ ⟨bv, bc, bp⟩ Ae ce Hp.new) := Lib.hid ⟨EE.out.keep b12, M6.out.kp (Kp.of_below (L := []) b12) (fun y hy => by cases hy) (by simp), M7.out.kp (Kp.of_below (L := []) b12) (fun y hy => by cases hy) (by simp), M5.out.kp (Kp.of_below (L := []) b12) (fun y hy => by cases hy) (by simp), ⟨(by dsimp only; omega), (by dsimp only; omega), (by dsimp only; omega)⟩, Hp.new_ok _, HG.out⟩
  have v8 : B + 1 < w11.heap.size := (by have := N7.out.lt; omega)
  have B8 := Lib.hid (BB.out.trans (b12.mono (by omega)))
  have F8 := Lib.hid (FF.out.below b12 FF.out.lt)
  have G8 := Lib.hid (GG.out.below b12 GG.out.lt)
  have L8 := Lib.hid (LL.out.below b12 LL.out.lt)
  clear EE M5 M6 M7 HR1 HR2 HR3 HRE
  first | (refine hK.out _ _ ?_ (fun hHeld => ?_)) | (go_wp2_with fail; refine hK.out _ _ ?_ (fun hHeld => ?_))
  · (try dsimp only); exact ⟨N7.out.below b12 N7.out.lt, N6.out.below b12 N6.out.lt, N5.out.below b12 N5.out.lt, N4.out.below b12 N4.out.lt, N3.out.below b12 N3.out.lt, N1.out.below b12 N1.out.lt, F8.out.cell 0, F8.out.cell 1, F8.out.cell 2, L8.out⟩
  clear hK K
  try simp only [Act.put, List.setIfInBounds_toArray, List.set_cons_zero, List.set_cons_succ]
  refine rg_take (i := 30) (d := some 4) (l := #[true, true, true, true, true, true, true, true, true, true, true, true, true, true, true, true, true, true, true, true, true, true, true, true, true, true, true, true, true, true, true, false]) (fuel := 1) (v := ?_) rfl (by kernel_rfl) (by kernel_rfl) (by kernel_rfl) (by kernel_rfl) (by kernel_rfl) (fun _ _ _ h => h) (by kernel_rfl) ?_ (by assumption) ?_
  rotate_left 1
  · (intro wS hSw; (try dsimp only at hSw); go_simp; try with_reducible rfl)
  try simp only [Act.put, List.setIfInBounds_toArray, List.set_cons_zero, List.set_cons_succ]
  obtain ⟨w12, hw12⟩ : ∃ w12, w11.alloc (.cells (hpC ⟨n, es, n1, z1, n2, z2, n3, z3⟩ ⟨bv, bc, bp⟩ Ae ce Hp.new) 112) = w12 := ⟨_, rfl⟩
  rw [hw12] at N8 O8 B8 F8 G8 L8 b12
  simp only [hpC, hpL, hpX, Hp.new, Tm.new, upTo, giveV] at hw12
  first | rw [hw12] | (have hw13 := hw12; dsimp only at hw13; rw [hw13]) | (show wpAnyH _ _ _ _ _ _ _ _ (w11.alloc (.cells (hpC ⟨n, es, n1, z1, n2, z2, n3, z3⟩ ⟨bv, bc, bp⟩ Ae ce Hp.new) 112)); rw [show w11.alloc (.cells (hpC ⟨n, es, n1, z1, n2, z2, n3, z3⟩ ⟨bv, bc, bp⟩ Ae ce Hp.new) 112) = w12 from hw12])
  have e0 : w12.cell? ⟨B + 1, 0, none⟩ = some (.int .i64 0) := G8.out.cell 0
  have e1 : w12.cell? ⟨B + 1, 1, none⟩ = some (.int .i64 0) := G8.out.cell 1
  have f0 := G8.out.frozen 0
  have f1 := G8.out.frozen 1
  refine rg_next (i := 31) (l := #[true, true, true, true, true, true, true, true, true, true, true, true, true, true, true, true, true, true, true, true, true, true, true, true, true, true, true, true, true, true, true, true]) (fuel := 0) (by kernel_rfl) rfl (by kernel_rfl) (by kernel_rfl) (fun K hK => ?_)
  go_simp
  skip
  first | (refine hK.out _ _ ?_ (fun hHeld => ?_)) | (go_wp2_with fail; refine hK.out _ _ ?_ (fun hHeld => ?_))
  · (try dsimp only); exact ⟨(((N7.out.below b12 N7.out.lt).far (by simp; omega) _).far (by simp; omega) _), (((N6.out.below b12 N6.out.lt).far (by simp; omega) _).far (by simp; omega) _), (((N5.out.below b12 N5.out.lt).far (by simp; omega) _).far (by simp; omega) _), (((N4.out.below b12 N4.out.lt).far (by simp; omega) _).far (by simp; omega) _), (((N3.out.below b12 N3.out.lt).far (by simp; omega) _).far (by simp; omega) _), (((N1.out.below b12 N1.out.lt).far (by simp; omega) _).far (by simp; omega) _), ((F8.out.far (by simp) _).far (by simp) _).cell 0, ((F8.out.far (by simp) _).far (by simp) _).cell 1, ((F8.out.far (by simp) _).far (by simp) _).cell 2, ((L8.out.far (by simp; omega) _).far (by simp; omega) _)⟩
  clear hK K
  try simp only [Act.put, List.setIfInBounds_toArray, List.set_cons_zero, List.set_cons_succ]
  refine wpAnyH_done (by kernel_rfl) ?_ _
  have NB := (G8.out.set_ 0 (.int .i64 0)).set_ 1 (.int .i64 0)
  have KB : Kp [B + 1] w12 ((w12.setCell ⟨B + 1, 0, none⟩ (.int .i64 0)).setCell ⟨B + 1, 1, none⟩ (.int .i64 0)) := ((Kp.refl _ _).setCell (.inl (by simp)) _).setCell (.inl (by simp)) _
  have hlg : B + 1 ≠ w11.heap.size := by omega
  have H9 : Hid (HP ((w12.setCell ⟨B + 1, 0, none⟩ (.int .i64 0)).setCell ⟨B + 1, 1, none⟩ (.int .i64 0)) w11.heap.size ⟨n, es, n1, z1, n2, z2, n3, z3⟩ ⟨bv, bc, bp⟩ Hp.new) := Lib.hid (HP.kp (L := [B + 1]) ⟨Ae, ce, N8.out, O8.out⟩ KB (fun y hy => by obtain rfl := List.mem_singleton.1 hy; exact ⟨_, _, G8.out, by decide, by decide⟩) (by simp; omega))
  have B9 := Lib.hid ((B8.out.setCell (p := ⟨B + 1, 0, none⟩) (by simp) (.int .i64 0)).setCell (p := ⟨B + 1, 1, none⟩) (by simp) (.int .i64 0))
  simp only [List.setIfInBounds_toArray, List.set_cons_zero, List.set_cons_succ] at NB
  clear hHeld e0 e1 f0 f1
  have hvv : B ≤ w11.heap.size ∧ B ≤ bv ∧ B ≤ bc ∧ B ≤ bp := by omega
  generalize World.setCell (World.setCell _ _ _) _ _ = wz at *
  have z0 : wz.cell? ⟨B + 1, 0, none⟩ = some (.int .i64 0) := NB.cell 0
  have z1' : wz.cell? ⟨B + 1, 1, none⟩ = some (.int .i64 0) := NB.cell 1
  clear NB KB
  go_wp2_with fail
  refine bodyPost_ret (v := .tuple #[.pointer (some ⟨w11.heap.size, 0, none⟩), .agg #[.int .i64 0, .int .i64 0]]) (by simp [results, Tryz.results8, go_sem, z0, z1']) rfl ?_
  exact ⟨w11.heap.size, ⟨bv, bc, bp⟩, rfl, by rw [HBB.out]; exact hvv, H9.out, by rw [HBB.out]; exact B9.out⟩
end
end Go.Proofs.YtccimkmlbcgekaaGreat
