/-
  Texts of these proofs, one behind the other: Lat1, MLat, Hard1.
-/
import Derived.Test.YtleofglnlfpoeaaGreatKBP09
import Derived.Test.YtleofglnlfpoeaaGreatKBP01
import Derived.Test.YtleofglnlfpoeaaGreatKBP03
import Derived.Handy
import Derived.Test.YtleofglnlfpoeaaGreatKBP13
import Derived.Test.YtleofglnlfpoeaaGreatKBP08
import Derived.Test.YtleofglnlfpoeaaGreatKBP14
import Derived.Test.YtleofglnlfpoeaaGreatKBP15
import Derived.Test.YtleofglnlfpoeaaGreatKBP18
namespace Go.Proofs.YtleofglnlfpoeaaGreat
open Go.RowKit
set_option linter.unusedVariables false
/-- A buffer that has b. -/
def LT (w : World) (g : Nat) (b : Int) : Prop := Blk w g 82 #[.int .u8 b]
theorem LT.set {w : World} {g : Nat} {b : Int} (h : LT w g b) (u : Int) : LT (w.setCell ⟨g, 0, none⟩ (.int .u8 u)) g u := Blk.set_ h 0 _
/-- What is read: the bits of the mask are those of b, all others stay. -/
def mixI (v m b : Int) : Int := bits .or .u8 (bits .andNot .u8 v m) (bits .and .u8 b m)
theorem lnew_any (b : Int) (w : World) :
    Calls Tryz.prog 33 #[.int .u8 b] w fun e w' => e = .returned (.pointer (some ⟨w.heap.size, 0, none⟩)) ∧ w' = w.alloc (.cells #[.int .u8 b] 82) := by
  go_enter Tryz.func33, Tryz.ntmps33
  go_wp2
  go_ret
  exact ⟨rfl, rfl⟩
end Go.Proofs.YtleofglnlfpoeaaGreat
namespace Go.Proofs.YtleofglnlfpoeaaGreat
open Go.RowKit
set_option maxRecDepth 100000
theorem bv_of (b : Int) (h0 : 0 ≤ b) (h1 : b ≤ 255) : ∃ x : BitVec 8, b = (x.toNat : Int) := by
  obtain ⟨n, rfl⟩ := Int.eq_ofNat_of_zero_le h0
  exact ⟨BitVec.ofNat 8 n, by simp; omega⟩
theorem bv_bit_all : ∀ n : Nat, n < 256 → ∀ i : Nat, i < 8 → rbit (n : Int) (i : Int) = (BitVec.ofNat 8 n).getLsbD i := by decide +kernel
theorem bv_bit (x : BitVec 8) (i : Nat) (hi : i < 8) : rbit (x.toNat : Int) (i : Int) = x.getLsbD i := by
  rw [bv_bit_all x.toNat x.isLt i hi, BitVec.ofNat_toNat, BitVec.setWidth_eq]
theorem bv_all_all : ∀ n : Nat, n < 256 → ofTo [(BitVec.ofNat 8 n).getLsbD 0, (BitVec.ofNat 8 n).getLsbD 1, (BitVec.ofNat 8 n).getLsbD 2, (BitVec.ofNat 8 n).getLsbD 3, (BitVec.ofNat 8 n).getLsbD 4, (BitVec.ofNat 8 n).getLsbD 5, (BitVec.ofNat 8 n).getLsbD 6, (BitVec.ofNat 8 n).getLsbD 7] 8 = (n : Int) := by decide +kernel
theorem bv_all (x : BitVec 8) : ofTo [x.getLsbD 0, x.getLsbD 1, x.getLsbD 2, x.getLsbD 3, x.getLsbD 4, x.getLsbD 5, x.getLsbD 6, x.getLsbD 7] 8 = (x.toNat : Int) := by
  have h := bv_all_all x.toNat x.isLt
  rwa [BitVec.ofNat_toNat, BitVec.setWidth_eq] at h
theorem wrap_bv (x : BitVec 8) : IntKind.u8.wrap (x.toNat : Int) = (x.toNat : Int) := by
  rw [IntKind.wrap_u8]
  have := x.isLt
  omega
theorem ofInt_bv (x : BitVec 8) : BitVec.ofInt 8 (x.toNat : Int) = x := by
  apply BitVec.eq_of_toNat_eq
  rw [BitVec.toNat_ofInt]
  have := x.isLt
  omega
theorem mix_bv (v m b : BitVec 8) : mixI v.toNat m.toNat b.toNat = (((v &&& ~~~m) ||| (b &&& m)).toNat : Int) := by
  have e1 : bits .andNot .u8 (v.toNat : Int) (m.toNat : Int) = ((v &&& ~~~m).toNat : Int) := by
    show IntKind.u8.wrap (((BitVec.ofInt 8 (v.toNat : Int)) &&& ~~~(BitVec.ofInt 8 (m.toNat : Int))).toNat : Int) = _
    rw [ofInt_bv, ofInt_bv, wrap_bv]
  have e2 : bits .and .u8 (b.toNat : Int) (m.toNat : Int) = ((b &&& m).toNat : Int) := by
    show IntKind.u8.wrap (((BitVec.ofInt 8 (b.toNat : Int)) &&& (BitVec.ofInt 8 (m.toNat : Int))).toNat : Int) = _
    rw [ofInt_bv, ofInt_bv, wrap_bv]
  unfold mixI
  rw [e1, e2]
  show IntKind.u8.wrap (((BitVec.ofInt 8 ((v &&& ~~~m).toNat : Int)) ||| (BitVec.ofInt 8 ((b &&& m).toNat : Int))).toNat : Int) = _
  rw [ofInt_bv, ofInt_bv, wrap_bv]
theorem mix_byte (v m b : Int) (v0 : 0 ≤ v) (v1 : v ≤ 255) (m0 : 0 ≤ m) (m1 : m ≤ 255) (b0 : 0 ≤ b) (b1 : b ≤ 255) : 0 ≤ mixI v m b ∧ mixI v m b ≤ 255 := by
  obtain ⟨x, rfl⟩ := bv_of v v0 v1
  obtain ⟨y, rfl⟩ := bv_of m m0 m1
  obtain ⟨z, rfl⟩ := bv_of b b0 b1
  rw [mix_bv]
  have := ((x &&& ~~~y) ||| (z &&& y)).isLt
  omega
/-- Bit by bit: the mask's bits are those of b, all others stay. -/
theorem mix_bit (v m b : Int) (v0 : 0 ≤ v) (v1 : v ≤ 255) (m0 : 0 ≤ m) (m1 : m ≤ 255) (b0 : 0 ≤ b) (b1 : b ≤ 255) (i : Nat) (hi : i < 8) :
    rbit (mixI v m b) i = if rbit m i then rbit b i else rbit v i := by
  obtain ⟨x, rfl⟩ := bv_of v v0 v1
  obtain ⟨y, rfl⟩ := bv_of m m0 m1
  obtain ⟨z, rfl⟩ := bv_of b b0 b1
  rw [mix_bv, bv_bit _ i hi, bv_bit _ i hi, bv_bit _ i hi, bv_bit _ i hi, BitVec.getLsbD_or, BitVec.getLsbD_and, BitVec.getLsbD_and, BitVec.getLsbD_not]
  cases x.getLsbD i <;> cases y.getLsbD i <;> cases z.getLsbD i <;> simp [hi]
/-- A byte is what its bits make. -/
theorem of_bits (b : Int) (b0 : 0 ≤ b) (b1 : b ≤ 255) (f : Nat → Bool) (hf : ∀ i, i < 8 → f i = rbit b i) : ofTo [f 0, f 1, f 2, f 3, f 4, f 5, f 6, f 7] 8 = b := by
  obtain ⟨x, rfl⟩ := bv_of b b0 b1
  rw [hf 0 (by omega), hf 1 (by omega), hf 2 (by omega), hf 3 (by omega), hf 4 (by omega), hf 5 (by omega), hf 6 (by omega), hf 7 (by omega)]
  rw [bv_bit x 0 (by omega), bv_bit x 1 (by omega), bv_bit x 2 (by omega), bv_bit x 3 (by omega), bv_bit x 4 (by omega), bv_bit x 5 (by omega), bv_bit x 6 (by omega), bv_bit x 7 (by omega)]
  exact bv_all x
end Go.Proofs.YtleofglnlfpoeaaGreat
namespace Go.Proofs.YtleofglnlfpoeaaGreat
open Go.RowKit
set_option linter.unusedVariables false
set_option linter.unusedSimpArgs false
set_option maxRecDepth 100000
section
variable {w : World} {g o : Nat} {b : Int}
theorem pvalue_any (c0 : w.cell? ⟨g, o, none⟩ = some (.int .u8 b)) :
    Calls Tryz.prog 98 #[.pointer (some ⟨g, o, none⟩)] w fun e w' => e = .returned (.int .u8 b) ∧ w = w' := by
  go_enter Tryz.func98, Tryz.ntmps98
  go_wp2
  go_ret
  exact ⟨rfl, rfl⟩
theorem plwrite_any (c0 : w.cell? ⟨g, o, none⟩ = some (.int .u8 b)) (f0 : w.frozen? ⟨g, o, none⟩ = false) (u : Int) :
    Calls Tryz.prog 162 #[.pointer (some ⟨g, o, none⟩), .int .u8 u] w fun e w' => e = .returned (.tuple #[]) ∧ w' = w.setCell ⟨g, o, none⟩ (.int .u8 u) := by
  go_enter Tryz.func162, Tryz.ntmps162
  go_wp2
  go_end0
  exact ⟨rfl, rfl⟩
theorem plread_any (c0 : w.cell? ⟨g, o, none⟩ = some (.int .u8 b)) (f0 : w.frozen? ⟨g, o, none⟩ = false) (m u : Int) :
    Calls Tryz.prog 157 #[.pointer (some ⟨g, o, none⟩), .int .u8 m, .int .u8 u] w fun e w' => e = .returned (.int .u8 (mixI b m u)) ∧ w' = w.setCell ⟨g, o, none⟩ (.int .u8 (mixI b m u)) := by
  have C0 := Lib.hid c0
  have F0 := Lib.hid f0
  clear c0 f0
  go_enter Tryz.func157, Tryz.ntmps157
  go_wp2_with fail
  refine (pvalue_any C0.out).mono ?_
  rintro e w' ⟨rfl, rfl⟩
  go_wp2_with fail
  refine (plwrite_any C0.out F0.out _).mono ?_
  rintro e w' ⟨rfl, rfl⟩
  go_wp2
  go_ret
  exact ⟨rfl, rfl⟩
end
/-- What changes in a page. -/
structure Hp where
  tm : Tm
  s : Nat
  ro : Bool
  buf : Int
  q : Iq
  pt : Pt
  tp : Nat
  tv : Nat
  tc : Nat
  now : Int
/-- What doesn't: its edges, and the bytes of its feeds. -/
structure Hd where
  n : Nat
  es : Nat → Iib
  nv : Nat
  zv : Nat → Int
  nc : Nat
  zc : Nat → Int
  np : Nat
  zp : Nat → Int
/-- Where its feeds keep what is left. -/
structure Hb where
  v : Nat
  c : Nat
  p : Nat
def hpX (b : Hb) (x : Hp) : Nat → Value
  | 0 => .int .i64 x.tm.gone
  | 1 => .int .u8 x.tm.c
  | 2 => .int .u8 x.tm.r
  | 3 => .bool x.tm.on
  | 11 => .int .u8 x.buf
  | 12 => .int .u8 x.q.d
  | 13 => .bool x.q.due
  | 14 => giveV b.p
  | 15 => .int .i64 x.tp
  | 16 => .int .u8 x.pt.l
  | 17 => .int .i64 x.pt.p
  | 18 => giveV b.v
  | 19 => .int .i64 x.tv
  | 20 => giveV b.c
  | 21 => .int .i64 x.tc
  | _ => .int .i64 x.now
def hpC (d : Hd) (b : Hb) (A : Option Addr) (c : Nat) (x : Hp) : Array Value := hpL (hpX b x) A d.n c x.s (fun j => upTo d.es x.s j) x.ro
theorem hpC_size (d : Hd) (b : Hb) (A : Option Addr) (c : Nat) (x : Hp) : (hpC d b A c x).size = 23 := rfl
/-- What of a feed is left. -/
def Box (w : World) (cb n : Nat) (z : Nat → Int) : Prop := ∃ v, Blk w cb 22 #[v] ∧ SliceB w cb v n z
theorem Box.kp {w w' : World} {cb n : Nat} {z : Nat → Int} {L : List Nat} (h : Box w cb n z) (k : Kp L w w') (hL : ∀ x ∈ L, ∃ t cs, Blk w x t cs ∧ 5 ≠ t) (h2 : cb ∉ L) : Box w' cb n z := by
  obtain ⟨v, hc, hb⟩ := h
  exact ⟨v, hc.kp k h2, hb.kp k hL⟩
def Hp.ok (x : Hp) (d : Hd) : Prop := x.tm.ok ∧ x.s ≤ d.n ∧ (0 ≤ x.buf ∧ x.buf ≤ 255) ∧ x.q.d ≤ 7 ∧ x.pt.ok ∧ 0 ≤ x.now
/-- What a page has beside its own block. -/
structure HPo (w : World) (d : Hd) (b : Hb) (A : Option Addr) (c : Nat) (x : Hp) : Prop where
  e : EOwn w A d.n c d.es
  v : Box w b.v (d.nv - x.tv) (fun i => d.zv (x.tv + i))
  c : Box w b.c (d.nc - x.tc) (fun i => d.zc (x.tc + i))
  p : Box w b.p (d.np - x.tp) (fun i => d.zp (x.tp + i))
  ne : b.v ≠ b.c ∧ b.v ≠ b.p ∧ b.c ≠ b.p
  ok : x.ok d
  gd : Good d.n d.es
/-- A page at g. -/
def HP (w : World) (g : Nat) (d : Hd) (b : Hb) (x : Hp) : Prop := ∃ A c, Blk w g 99 (hpC d b A c x) ∧ HPo w d b A c x
section
variable {w w' : World} {g : Nat} {d : Hd} {b : Hb} {x y : Hp} {L : List Nat} {A : Option Addr} {c : Nat}
theorem hp_off (hb : Blk w g 99 (hpC d b A c x)) (h : HPo w d b A c x) (hL : ∀ y ∈ L, y = g ∨ y = b.v ∨ y = b.c ∨ y = b.p) :
    (∀ y ∈ L, ∃ t cs, Blk w y t cs ∧ 5 ≠ t) ∧ (∀ y ∈ L, ∃ t cs, Blk w y t cs ∧ 154 ≠ t) := by
  refine ⟨fun y hy => ?_, fun y hy => ?_⟩
  all_goals
    rcases hL y hy with rfl | rfl | rfl | rfl
    · exact ⟨_, _, hb, by decide⟩
    · obtain ⟨v, h1, _⟩ := h.v; exact ⟨_, _, h1, by decide⟩
    · obtain ⟨v, h1, _⟩ := h.c; exact ⟨_, _, h1, by decide⟩
    · obtain ⟨v, h1, _⟩ := h.p; exact ⟨_, _, h1, by decide⟩
theorem hp_ne (hb : Blk w g 99 (hpC d b A c x)) (h : HPo w d b A c x) : g ≠ b.v ∧ g ≠ b.c ∧ g ≠ b.p := by
  obtain ⟨v1, h1, _⟩ := h.v
  obtain ⟨v2, h2, _⟩ := h.c
  obtain ⟨v3, h3, _⟩ := h.p
  exact ⟨hb.ne_ h1 (by decide), hb.ne_ h2 (by decide), hb.ne_ h3 (by decide)⟩
theorem HP.ne (h : HP w g d b x) : g ≠ b.v ∧ g ≠ b.c ∧ g ≠ b.p := by
  obtain ⟨A, c, hb, ho⟩ := h
  exact hp_ne hb ho
theorem HP.lt (h : HP w g d b x) : g < w.heap.size ∧ b.v < w.heap.size ∧ b.c < w.heap.size ∧ b.p < w.heap.size := by
  obtain ⟨A, c, hb, ho⟩ := h
  obtain ⟨v1, h1, _⟩ := ho.v
  obtain ⟨v2, h2, _⟩ := ho.c
  obtain ⟨v3, h3, _⟩ := ho.p
  exact ⟨hb.lt, h1.lt, h2.lt, h3.lt⟩
theorem HP.ok (h : HP w g d b x) : x.ok d := by
  obtain ⟨A, c, hb, ho⟩ := h
  exact ho.ok
theorem HP.gd (h : HP w g d b x) : Good d.n d.es := by
  obtain ⟨A, c, hb, ho⟩ := h
  exact ho.gd
/-- What happens elsewhere doesn't matter. -/
theorem HP.kp (h : HP w g d b x) (k : Kp L w w') (hL : ∀ y ∈ L, ∃ t cs, Blk w y t cs ∧ 5 ≠ t ∧ 154 ≠ t) (hn : g ∉ L ∧ b.v ∉ L ∧ b.c ∉ L ∧ b.p ∉ L) : HP w' g d b x := by
  obtain ⟨A, c, hb, ho⟩ := h
  have h8 : ∀ y ∈ L, ∃ t cs, Blk w y t cs ∧ 5 ≠ t := fun y hy => by obtain ⟨t, cs, h1, h2, _⟩ := hL y hy; exact ⟨t, cs, h1, h2⟩
  have hE : ∀ y ∈ L, ∃ t cs, Blk w y t cs ∧ 154 ≠ t := fun y hy => by obtain ⟨t, cs, h1, _, h2⟩ := hL y hy; exact ⟨t, cs, h1, h2⟩
  exact ⟨A, c, hb.kp k hn.1, ho.e.kp k hE, ho.v.kp k h8 hn.2.1, ho.c.kp k h8 hn.2.2.1, ho.p.kp k h8 hn.2.2.2, ho.ne, ho.ok, ho.gd⟩
theorem HP.keep (h : HP w g d b x) (k : Below w.heap.size w w') : HP w' g d b x :=
  h.kp (L := []) (Kp.of_below k) (fun x hx => by cases hx) (by simp)
theorem HP.kp0 (h : HP w g d b x) (k : Kp [] w w') : HP w' g d b x := h.kp k (fun x hx => by cases hx) (by simp)
/-- What is changed in its own block alone. -/
theorem hp_own (hb : Blk w g 99 (hpC d b A c x)) (h : HPo w d b A c x) (k : Kp [g] w w') (hb' : Blk w' g 99 (hpC d b A c y)) (e1 : y.tv = x.tv) (e2 : y.tc = x.tc) (e3 : y.tp = x.tp) (hok : y.ok d) : HP w' g d b y := by
  obtain ⟨h8, hE⟩ := hp_off (L := [g]) hb h (by simp)
  obtain ⟨n1, n2, n3⟩ := hp_ne hb h
  refine ⟨A, c, hb', h.e.kp k hE, ?_, ?_, ?_, h.ne, hok, h.gd⟩
  · rw [e1]; exact h.v.kp k h8 (by simpa using n1.symm)
  · rw [e2]; exact h.c.kp k h8 (by simpa using n2.symm)
  · rw [e3]; exact h.p.kp k h8 (by simpa using n3.symm)
/-- The timer. -/
theorem HP.tmr (h : HP w g d b x) : ∃ cs, TM w g 99 cs 0 x.tm ∧ ∀ w' s, TM w' g 99 cs 0 s → Kp [g] w w' → HP w' g d b { x with tm := s } := by
  obtain ⟨A, c, hb, ho⟩ := h
  refine ⟨hpC d b A c x, ⟨hb, (by first | (rw [hpC_size]; decide) | (rw [ptBase_size, hpC_size]; decide)), ho.ok.1⟩, fun w' s h' k => ?_⟩
  exact hp_own (y := { x with tm := s }) hb ho k h'.1 rfl rfl rfl ⟨h'.2.2, ho.ok.2⟩
/-- The controller. -/
theorem HP.irq (h : HP w g d b x) : ∃ cs, IQ w g 99 cs 12 x.q ∧ ∀ w' s, IQ w' g 99 cs 12 s → Kp [g] w w' → HP w' g d b { x with q := s } := by
  obtain ⟨A, c, hb, ho⟩ := h
  refine ⟨hpC d b A c x, ⟨hb, (by first | (rw [hpC_size]; decide) | (rw [ptBase_size, hpC_size]; decide)), ho.ok.2.2.2.1⟩, fun w' s h' k => ?_⟩
  exact hp_own (y := { x with q := s }) hb ho k h'.1 rfl rfl rfl ⟨ho.ok.1, ho.ok.2.1, ho.ok.2.2.1, h'.2.2, ho.ok.2.2.2.2⟩
/-- The lines. -/
theorem HP.lns (h : HP w g d b x) : LNH (hpX b x) w g d.n d.es x.s x.ro ∧ ∀ w' s r, LNH (hpX b x) w' g d.n d.es s r → Kp [g] w w' → HP w' g d b { x with s := s, ro := r } := by
  obtain ⟨A, c, hb, ho⟩ := h
  refine ⟨⟨ho.ok.2.1, A, c, hb, ho.e⟩, fun w' s r h' k => ?_⟩
  obtain ⟨h1, A', c', hb', he'⟩ := h'
  obtain ⟨h8, hE⟩ := hp_off (L := [g]) hb ho (by simp)
  obtain ⟨n1, n2, n3⟩ := hp_ne hb ho
  exact ⟨A', c', hb', he', ho.v.kp k h8 (by simpa using n1.symm), ho.c.kp k h8 (by simpa using n2.symm), ho.p.kp k h8 (by simpa using n3.symm), ho.ne, ⟨ho.ok.1, h1, ho.ok.2.2⟩, ho.gd⟩
/-- The buffer. -/
theorem HP.lat (h : HP w g d b x) : w.cell? ⟨g, 11, none⟩ = some (.int .u8 x.buf) ∧ w.frozen? ⟨g, 11, none⟩ = false ∧ ∀ u, 0 ≤ u → u ≤ 255 → HP (w.setCell ⟨g, 11, none⟩ (.int .u8 u)) g d b { x with buf := u } ∧ Kp [g] w (w.setCell ⟨g, 11, none⟩ (.int .u8 u)) := by
  obtain ⟨A, c, hb, ho⟩ := h
  refine ⟨hb.cell 11, hb.frozen 11, fun u h0 h1 => ?_⟩
  have k : Kp [g] w (w.setCell ⟨g, 11, none⟩ (.int .u8 u)) := (Kp.refl _ _).setCell (.inl (by simp)) _
  exact ⟨hp_own (y := { x with buf := u }) hb ho k (hb.set_ 11 _) rfl rfl rfl ⟨ho.ok.1, ho.ok.2.1, ⟨h0, h1⟩, ho.ok.2.2.2⟩, k⟩
/-- How far it went. -/
theorem HP.nw (h : HP w g d b x) : w.cell? ⟨g, 22, none⟩ = some (.int .i64 x.now) ∧ w.frozen? ⟨g, 22, none⟩ = false ∧ ∀ u, 0 ≤ u → HP (w.setCell ⟨g, 22, none⟩ (.int .i64 u)) g d b { x with now := u } ∧ Kp [g] w (w.setCell ⟨g, 22, none⟩ (.int .i64 u)) := by
  obtain ⟨A, c, hb, ho⟩ := h
  refine ⟨hb.cell 22, hb.frozen 22, fun u h0 => ?_⟩
  have k : Kp [g] w (w.setCell ⟨g, 22, none⟩ (.int .i64 u)) := (Kp.refl _ _).setCell (.inl (by simp)) _
  exact ⟨hp_own (y := { x with now := u }) hb ho k (hb.set_ 22 _) rfl rfl rfl ⟨ho.ok.1, ho.ok.2.1, ho.ok.2.2.1, ho.ok.2.2.2.1, ho.ok.2.2.2.2.1, h0⟩, k⟩
/-- The port. -/
theorem HP.prt (h : HP w g d b x) : ∃ cs, PT w g 99 cs 14 b.p d.np d.zp x.tp x.pt ∧ ∀ w' s t L, PT w' g 99 cs 14 b.p d.np d.zp t s → Kp L w w' → (∀ y ∈ L, y = g ∨ y = b.p) → HP w' g d b { x with pt := s, tp := t } := by
  obtain ⟨A, c, hb, ho⟩ := h
  refine ⟨hpC d b A c x, ⟨⟨hb, ⟨(by first | (rw [hpC_size]; decide) | (rw [ptBase_size, hpC_size]; decide)), by decide, by decide⟩, ho.p⟩, (by first | (rw [hpC_size]; decide) | (rw [ptBase_size, hpC_size]; decide)), ho.ok.2.2.2.2.1⟩, fun w' s t L h' k hL => ?_⟩
  obtain ⟨⟨h1, _, h3⟩, _, h4⟩ := h'
  obtain ⟨h8, hE⟩ := hp_off (L := L) hb ho (fun y hy => (hL y hy).elim .inl (fun e => .inr (.inr (.inr e))))
  obtain ⟨n1, n2, n3⟩ := hp_ne hb ho
  obtain ⟨m1, m2, m3⟩ := ho.ne
  exact ⟨A, c, h1, ho.e.kp k hE, ho.v.kp k h8 (fun e => (hL _ e).elim n1.symm m2), ho.c.kp k h8 (fun e => (hL _ e).elim n2.symm m3), h3, ho.ne, ⟨ho.ok.1, ho.ok.2.1, ho.ok.2.2.1, ho.ok.2.2.2.1, h4, ho.ok.2.2.2.2.2⟩, ho.gd⟩
/-- The feed of VDC. -/
theorem HP.fdv (h : HP w g d b x) : ∃ cs, FP w g 99 cs 18 b.v (d.nv - x.tv) (fun i => d.zv (x.tv + i)) x.tv ∧ ∀ w' t L, FP w' g 99 cs 18 b.v (d.nv - t) (fun i => d.zv (t + i)) (t : Nat) → Kp L w w' → (∀ y ∈ L, y = g ∨ y = b.v) → HP w' g d b { x with tv := t } := by
  obtain ⟨A, c, hb, ho⟩ := h
  refine ⟨hpC d b A c x, ⟨hb, ⟨(by first | (rw [hpC_size]; decide) | (rw [ptBase_size, hpC_size]; decide)), by decide, by decide⟩, ho.v⟩, fun w' t L h' k hL => ?_⟩
  obtain ⟨h1, _, h3⟩ := h'
  obtain ⟨h8, hE⟩ := hp_off (L := L) hb ho (fun y hy => (hL y hy).elim .inl (fun e => .inr (.inl e)))
  obtain ⟨n1, n2, n3⟩ := hp_ne hb ho
  obtain ⟨m1, m2, m3⟩ := ho.ne
  exact ⟨A, c, h1, ho.e.kp k hE, h3, ho.c.kp k h8 (fun e => (hL _ e).elim n2.symm (fun e => m1 e.symm)), ho.p.kp k h8 (fun e => (hL _ e).elim n3.symm (fun e => m2 e.symm)), ho.ne, ho.ok, ho.gd⟩
/-- The feed of VCE. -/
theorem HP.fdc (h : HP w g d b x) : ∃ cs, FP w g 99 cs 20 b.c (d.nc - x.tc) (fun i => d.zc (x.tc + i)) x.tc ∧ ∀ w' t L, FP w' g 99 cs 20 b.c (d.nc - t) (fun i => d.zc (t + i)) (t : Nat) → Kp L w w' → (∀ y ∈ L, y = g ∨ y = b.c) → HP w' g d b { x with tc := t } := by
  obtain ⟨A, c, hb, ho⟩ := h
  refine ⟨hpC d b A c x, ⟨hb, ⟨(by first | (rw [hpC_size]; decide) | (rw [ptBase_size, hpC_size]; decide)), by decide, by decide⟩, ho.c⟩, fun w' t L h' k hL => ?_⟩
  obtain ⟨h1, _, h3⟩ := h'
  obtain ⟨h8, hE⟩ := hp_off (L := L) hb ho (fun y hy => (hL y hy).elim .inl (fun e => .inr (.inr (.inl e))))
  obtain ⟨n1, n2, n3⟩ := hp_ne hb ho
  obtain ⟨m1, m2, m3⟩ := ho.ne
  exact ⟨A, c, h1, ho.e.kp k hE, ho.v.kp k h8 (fun e => (hL _ e).elim n1.symm m1), h3, ho.p.kp k h8 (fun e => (hL _ e).elim n3.symm (fun e => m3 e.symm)), ho.ne, ho.ok, ho.gd⟩
end
end Go.Proofs.YtleofglnlfpoeaaGreat
