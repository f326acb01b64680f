/-
  Texts of these proofs, one behind the other: Port2, Lat1, MLat.
-/
import Derived.Test.YtccimkmlbcgekaaGreatKA23
import Derived.Laws.EntriesVeiled
import Derived.Test.YtccimkmlbcgekaaGreatKA01
import Derived.Test.YtccimkmlbcgekaaGreatKA02
import Derived.Handy
import Derived.Test.YtccimkmlbcgekaaGreatKA19
namespace Go.Proofs.YtccimkmlbcgekaaGreat
open Go.RowKit
set_option linter.unusedVariables false
set_option linter.unusedSimpArgs false
set_option maxRecDepth 100000
/-- A port by itself. -/
def P0 (w : World) (g cb n : Nat) (z : Nat → Int) (q : Nat) (s : Pt) : Prop := PT w g 106 (Array.replicate 4 .nilFunc) 0 cb n z q s
def NewPR (n : Nat) (z : Nat → Int) (w : World) (e : Ending) (w' : World) : Prop :=
  ∃ g cb, e = .returned (.pointer (some ⟨g, 0, none⟩)) ∧ w.heap.size ≤ g ∧ w.heap.size ≤ cb ∧ P0 w' g cb n z 0 ⟨0, 0⟩ ∧ Below w.heap.size w w'
set_option maxHeartbeats 1000000 in
theorem pnew_any {w : World} (A : Option Addr) (n c : Nat) (z : Nat → Int) (hA : A = none → n = 0 ∧ c = 0) (hm : n ≤ 140737488355328) (R : IRow w .u8 A n z) :
    Calls Tryz.prog 44 #[.slice A n c] w (NewPR n z w) := by
  have HR := Lib.hid R
  have HA := Lib.hid hA
  clear R hA
  go_enter Tryz.func44, Tryz.ntmps44
  go_wp2_with fail
  refine (new_any A n c z HA.out hm HR.out).mono ?_
  rintro e w1 ⟨g1, cb, rfl, h1, h2, h3, h4, h5, h6⟩
  have c0 : w1.cell? ⟨g1, 0, none⟩ = some (giveV cb) := h5.1.cell 0
  have c1 : w1.cell? ⟨g1, 1, none⟩ = some (.int .i64 0) := h5.1.cell 1
  obtain ⟨_, v, hc, hs⟩ := h5
  have HC := Lib.hid hc
  have HS := Lib.hid hs
  unfold giveV at c0
  clear hc hs
  go_wp2
  go_ret
  have sz := h6.size
  have k : Below w1.heap.size w1 (w1.alloc (.cells #[giveV cb, .int .i64 0, .int .u8 0, .int .i64 0] 106)) := (Below.refl _ _).alloc (Nat.le_refl _) _
  have hf : FP (w1.alloc (.cells #[giveV cb, .int .i64 0, .int .u8 0, .int .i64 0] 106)) w1.heap.size 106 (ptBase (Array.replicate 4 .nilFunc) 0 ⟨0, 0⟩) 0 cb n z 0 :=
    ⟨Blk.new w1 _ _, ⟨by decide, by decide, by decide⟩, v, HC.out.alloc _, HS.out.keep k⟩
  exact ⟨w1.heap.size, cb, rfl, sz, h2, ⟨hf.congr (by omega) (fun i _ => by rw [Nat.zero_add]) (by rfl), by decide, ⟨by decide, by decide⟩⟩, h6.trans (k.mono sz)⟩
section
variable (w : World)
theorem pselect_nil : Calls Tryz.prog 139 #[.pointer none] w fun e w' => e = .returned (.int .u8 0) ∧ w = w' := by
  go_enter Tryz.func139, Tryz.ntmps139
  go_wp2
  go_ret
  exact ⟨rfl, rfl⟩
theorem ptaken_nil : Calls Tryz.prog 144 #[.pointer none] w fun e w' => e = .returned (.int .i64 0) ∧ w = w' := by
  go_enter Tryz.func144, Tryz.ntmps144
  go_wp2
  go_ret
  exact ⟨rfl, rfl⟩
theorem pread_nil : Calls Tryz.prog 170 #[.pointer none] w fun e w' => e = .returned (.int .u8 176) ∧ w = w' := by
  go_enter Tryz.func170, Tryz.ntmps170
  go_wp2
  go_ret
  exact ⟨rfl, rfl⟩
theorem pclone_nil : Calls Tryz.prog 115 #[.pointer none] w fun e w' => e = .returned (.pointer none) ∧ w = w' := by
  go_enter Tryz.func115, Tryz.ntmps115
  go_wp2
  go_ret
  exact ⟨rfl, rfl⟩
theorem pwrite_nil (b : Int) : Calls Tryz.prog 173 #[.pointer none, .int .u8 b] w fun e w' => e = .returned (.tuple #[]) ∧ w = w' := by
  go_enter Tryz.func173, Tryz.ntmps173
  go_wp2
  first | go_end0 | refine bodyPost_ret (results_none rfl _ _ _) rfl ?_
  exact ⟨rfl, rfl⟩
end
section
variable {w : World} {g : Nat} {T : TypeId} {cs : Array Value} {o cb n : Nat} {z : Nat → Int} {q : Nat} {s : Pt}
def PCloneR (g : Nat) (T : TypeId) (cs : Array Value) (o cb n : Nat) (z : Nat → Int) (q : Nat) (s : Pt) (w : World) (e : Ending) (w' : World) : Prop :=
  ∃ g2 cb2, e = .returned (.pointer (some ⟨g2, 0, none⟩)) ∧ w.heap.size ≤ g2 ∧ w.heap.size ≤ cb2 ∧ P0 w' g2 cb2 n z q s ∧ PT w' g T cs o cb n z q s ∧ Kp [cb] w w'
set_option maxHeartbeats 2000000 in
theorem pclone_any (h : PT w g T cs o cb n z q s) (hn : n ≤ 140737488355328) :
    Calls Tryz.prog 115 #[.pointer (some ⟨g, o, none⟩)] w (PCloneR g T cs o cb n z q s w) := by
  obtain ⟨c0, c1, c2, c3⟩ := h.cells
  unfold giveV at c0
  have hlt := h.lt
  have hltc := h.ltc
  have H := Lib.hid h
  clear h
  go_enter Tryz.func115, Tryz.ntmps115
  go_wp2_with fail
  have hb := Blk.new w 106 #[giveV cb, .int .i64 q, .int .u8 s.l, .int .i64 s.p]
  have kA : Below w.heap.size w (w.alloc (.cells #[giveV cb, .int .i64 q, .int .u8 s.l, .int .i64 s.p] 106)) := (Below.refl _ _).alloc (Nat.le_refl _) _
  have H1 := Lib.hid (H.out.keep kA)
  have HB1 := Lib.hid hb
  have KA := Lib.hid kA
  have sz1 : w.heap.size < (w.alloc (.cells #[giveV cb, .int .i64 q, .int .u8 s.l, .int .i64 s.p] 106)).heap.size := by simp
  clear hb kA H c0 c1 c2 c3
  unfold giveV at *
  generalize hw1 : w.alloc _ = w1 at *
  clear hw1
  refine (fpclone_any H1.out.1 (by omega)).mono ?_
  rintro e w2 ⟨g2, cb2, rfl, p1, p2, p3, p4, p5⟩
  have hcb : w.heap.size ≠ cb := by omega
  have hb2 := HB1.out.kp p5 (by simpa using hcb)
  have d0 := p3.cells.1
  have d1 : w2.cell? ⟨g2, 1, none⟩ = some (.int .i64 q) := p3.cells.2
  unfold giveV at d0
  have e0 := hb2.cell 0
  have e1 := hb2.cell 1
  have f0 := hb2.frozen 0
  have f1 := hb2.frozen 1
  have HB2 := Lib.hid hb2
  have P3 := Lib.hid p3
  have P4 := Lib.hid p4
  have P5 := Lib.hid p5
  clear hb2 p3 p4 p5
  go_wp2_with fail
  go_ret
  have q1 := (HB2.out.set_ 0 (giveV cb2)).set_ 1 (.int .i64 q)
  have kp : Kp [w.heap.size] w2 ((w2.setCell ⟨w.heap.size, 0, none⟩ (giveV cb2)).setCell ⟨w.heap.size, 1, none⟩ (.int .i64 q)) := ((Kp.refl _ _).setCell (.inl (by simp)) _).setCell (.inl (by simp)) _
  have hn : ∀ x ∈ [w.heap.size], ∃ t cs, Blk w2 x t cs ∧ 5 ≠ t := fun x hx => by
    obtain rfl : x = w.heap.size := by simpa using hx
    exact ⟨_, _, HB2.out, by decide⟩
  obtain ⟨_, _, v, hc, hs⟩ := P3.out
  refine ⟨w.heap.size, cb2, rfl, Nat.le_refl _, by omega, ⟨⟨q1, ⟨by rw [ptBase_size]; decide, by decide, by decide⟩, v, hc.kp kp (by simp; omega), hs.kp kp hn⟩, by decide, H1.out.2.2⟩, ⟨P4.out.kp kp hn (by simp; omega) (by simp; omega), H1.out.2⟩, ?_⟩
  exact ((Kp.of_below KA.out).trans P5.out (by simp)).trans kp (fun x hx => .inr (by
    obtain rfl : x = w.heap.size := by simpa using hx
    exact Nat.le_refl _))
end
end Go.Proofs.YtccimkmlbcgekaaGreat
namespace Go.Proofs.YtccimkmlbcgekaaGreat
open Go.RowKit
set_option linter.unusedVariables false
/-- A buffer that has b. -/
def LT (w : World) (g : Nat) (b : Int) : Prop := Blk w g 95 #[.int .u8 b]
theorem LT.set {w : World} {g : Nat} {b : Int} (h : LT w g b) (u : Int) : LT (w.setCell ⟨g, 0, none⟩ (.int .u8 u)) g u := Blk.set_ h 0 _
/-- What is read: the bits of the mask are those of b, all others stay. -/
def mixI (v m b : Int) : Int := bits .or .u8 (bits .andNot .u8 v m) (bits .and .u8 b m)
theorem lnew_any (b : Int) (w : World) :
    Calls Tryz.prog 42 #[.int .u8 b] w fun e w' => e = .returned (.pointer (some ⟨w.heap.size, 0, none⟩)) ∧ w' = w.alloc (.cells #[.int .u8 b] 95) := by
  go_enter Tryz.func42, Tryz.ntmps42
  go_wp2
  go_ret
  exact ⟨rfl, rfl⟩
theorem value_any {w : World} {g : Nat} {b : Int} (h : LT w g b) :
    Calls Tryz.prog 113 #[.pointer (some ⟨g, 0, none⟩)] w fun e w' => e = .returned (.int .u8 b) ∧ w = w' := by
  have c0 : w.cell? ⟨g, 0, none⟩ = some (.int .u8 b) := Blk.cell h 0
  clear h
  go_enter Tryz.func113, Tryz.ntmps113
  go_wp2
  go_ret
  exact ⟨rfl, rfl⟩
theorem value_nil (w : World) :
    Calls Tryz.prog 113 #[.pointer none] w fun e w' => e = .returned (.int .u8 0) ∧ w = w' := by
  go_enter Tryz.func113, Tryz.ntmps113
  go_wp2
  go_ret
  exact ⟨rfl, rfl⟩
theorem lwrite_any {w : World} {g : Nat} {b : Int} (h : LT w g b) (u : Int) :
    Calls Tryz.prog 174 #[.pointer (some ⟨g, 0, none⟩), .int .u8 u] w fun e w' => e = .returned (.tuple #[]) ∧ w' = w.setCell ⟨g, 0, none⟩ (.int .u8 u) := by
  have c0 : w.cell? ⟨g, 0, none⟩ = some (.int .u8 b) := Blk.cell h 0
  have f0 := Blk.frozen h 0
  clear h
  go_enter Tryz.func174, Tryz.ntmps174
  go_wp2
  go_end0
  exact ⟨rfl, rfl⟩
theorem lwrite_nil (u : Int) (w : World) :
    Calls Tryz.prog 174 #[.pointer none, .int .u8 u] w fun e w' => e = .returned (.tuple #[]) ∧ w = w' := by
  go_enter Tryz.func174, Tryz.ntmps174
  go_wp2
  go_end0
  exact ⟨rfl, rfl⟩
def LReadR (g : Nat) (v : Int) (w : World) (e : Ending) (w' : World) : Prop := e = .returned (.int .u8 v) ∧ LT w' g v ∧ Kp [g] w w'
theorem lread_any {w : World} {g : Nat} {v : Int} (h : LT w g v) (m b : Int) :
    Calls Tryz.prog 169 #[.pointer (some ⟨g, 0, none⟩), .int .u8 m, .int .u8 b] w (LReadR g (mixI v m b) w) := by
  have H := Lib.hid h
  clear h
  go_enter Tryz.func169, Tryz.ntmps169
  go_wp2_with fail
  refine (value_any H.out).mono ?_
  rintro e w' ⟨rfl, rfl⟩
  go_wp2_with fail
  refine (lwrite_any H.out _).mono ?_
  rintro e w' ⟨rfl, rfl⟩
  go_wp2
  go_ret
  exact ⟨rfl, H.out.set _, (Kp.refl _ _).setCell (.inl (by simp)) _⟩
theorem lread_nil (m b : Int) (w : World) :
    Calls Tryz.prog 169 #[.pointer none, .int .u8 m, .int .u8 b] w fun e w' => e = .returned (.int .u8 (mixI 0 m b)) ∧ w = w' := by
  go_enter Tryz.func169, Tryz.ntmps169
  go_wp2_with fail
  refine (value_nil _).mono ?_
  rintro e w' ⟨rfl, rfl⟩
  go_wp2_with fail
  refine (lwrite_nil _ _).mono ?_
  rintro e w' ⟨rfl, rfl⟩
  go_wp2
  go_ret
  exact ⟨rfl, rfl⟩
end Go.Proofs.YtccimkmlbcgekaaGreat
namespace Go.Proofs.YtccimkmlbcgekaaGreat
open Go.RowKit
set_option maxRecDepth 100000
theorem bv_of (b : Int) (h0 : 0 ≤ b) (h1 : b ≤ 255) : ∃ x : BitVec 8, b = (x.toNat : Int) := by
  obtain ⟨n, rfl⟩ := Int.eq_ofNat_of_zero_le h0
  exact ⟨BitVec.ofNat 8 n, by simp; omega⟩
theorem bv_bit_all : ∀ n : Nat, n < 256 → ∀ i : Nat, i < 8 → rbit (n : Int) (i : Int) = (BitVec.ofNat 8 n).getLsbD i := by decide +kernel
theorem bv_bit (x : BitVec 8) (i : Nat) (hi : i < 8) : rbit (x.toNat : Int) (i : Int) = x.getLsbD i := by
  rw [bv_bit_all x.toNat x.isLt i hi, BitVec.ofNat_toNat, BitVec.setWidth_eq]
theorem bv_all_all : ∀ n : Nat, n < 256 → ofTo [(BitVec.ofNat 8 n).getLsbD 0, (BitVec.ofNat 8 n).getLsbD 1, (BitVec.ofNat 8 n).getLsbD 2, (BitVec.ofNat 8 n).getLsbD 3, (BitVec.ofNat 8 n).getLsbD 4, (BitVec.ofNat 8 n).getLsbD 5, (BitVec.ofNat 8 n).getLsbD 6, (BitVec.ofNat 8 n).getLsbD 7] 8 = (n : Int) := by decide +kernel
theorem bv_all (x : BitVec 8) : ofTo [x.getLsbD 0, x.getLsbD 1, x.getLsbD 2, x.getLsbD 3, x.getLsbD 4, x.getLsbD 5, x.getLsbD 6, x.getLsbD 7] 8 = (x.toNat : Int) := by
  have h := bv_all_all x.toNat x.isLt
  rwa [BitVec.ofNat_toNat, BitVec.setWidth_eq] at h
theorem wrap_bv (x : BitVec 8) : IntKind.u8.wrap (x.toNat : Int) = (x.toNat : Int) := by
  rw [IntKind.wrap_u8]
  have := x.isLt
  omega
theorem ofInt_bv (x : BitVec 8) : BitVec.ofInt 8 (x.toNat : Int) = x := by
  apply BitVec.eq_of_toNat_eq
  rw [BitVec.toNat_ofInt]
  have := x.isLt
  omega
theorem mix_bv (v m b : BitVec 8) : mixI v.toNat m.toNat b.toNat = (((v &&& ~~~m) ||| (b &&& m)).toNat : Int) := by
  have e1 : bits .andNot .u8 (v.toNat : Int) (m.toNat : Int) = ((v &&& ~~~m).toNat : Int) := by
    show IntKind.u8.wrap (((BitVec.ofInt 8 (v.toNat : Int)) &&& ~~~(BitVec.ofInt 8 (m.toNat : Int))).toNat : Int) = _
    rw [ofInt_bv, ofInt_bv, wrap_bv]
  have e2 : bits .and .u8 (b.toNat : Int) (m.toNat : Int) = ((b &&& m).toNat : Int) := by
    show IntKind.u8.wrap (((BitVec.ofInt 8 (b.toNat : Int)) &&& (BitVec.ofInt 8 (m.toNat : Int))).toNat : Int) = _
    rw [ofInt_bv, ofInt_bv, wrap_bv]
  unfold mixI
  rw [e1, e2]
  show IntKind.u8.wrap (((BitVec.ofInt 8 ((v &&& ~~~m).toNat : Int)) ||| (BitVec.ofInt 8 ((b &&& m).toNat : Int))).toNat : Int) = _
  rw [ofInt_bv, ofInt_bv, wrap_bv]
theorem mix_byte (v m b : Int) (v0 : 0 ≤ v) (v1 : v ≤ 255) (m0 : 0 ≤ m) (m1 : m ≤ 255) (b0 : 0 ≤ b) (b1 : b ≤ 255) : 0 ≤ mixI v m b ∧ mixI v m b ≤ 255 := by
  obtain ⟨x, rfl⟩ := bv_of v v0 v1
  obtain ⟨y, rfl⟩ := bv_of m m0 m1
  obtain ⟨z, rfl⟩ := bv_of b b0 b1
  rw [mix_bv]
  have := ((x &&& ~~~y) ||| (z &&& y)).isLt
  omega
/-- Bit by bit: the mask's bits are those of b, all others stay. -/
theorem mix_bit (v m b : Int) (v0 : 0 ≤ v) (v1 : v ≤ 255) (m0 : 0 ≤ m) (m1 : m ≤ 255) (b0 : 0 ≤ b) (b1 : b ≤ 255) (i : Nat) (hi : i < 8) :
    rbit (mixI v m b) i = if rbit m i then rbit b i else rbit v i := by
  obtain ⟨x, rfl⟩ := bv_of v v0 v1
  obtain ⟨y, rfl⟩ := bv_of m m0 m1
  obtain ⟨z, rfl⟩ := bv_of b b0 b1
  rw [mix_bv, bv_bit _ i hi, bv_bit _ i hi, bv_bit _ i hi, bv_bit _ i hi, BitVec.getLsbD_or, BitVec.getLsbD_and, BitVec.getLsbD_and, BitVec.getLsbD_not]
  cases x.getLsbD i <;> cases y.getLsbD i <;> cases z.getLsbD i <;> simp [hi]
/-- Nothing driven: all stays. -/
theorem mix_zero (v b : Int) (v0 : 0 ≤ v) (v1 : v ≤ 255) (b0 : 0 ≤ b) (b1 : b ≤ 255) : mixI v 0 b = v := by
  obtain ⟨x, rfl⟩ := bv_of v v0 v1
  obtain ⟨z, rfl⟩ := bv_of b b0 b1
  have h := mix_bv x 0#8 z
  rw [show ((0#8).toNat : Int) = 0 from rfl] at h
  rw [h, show (x &&& ~~~0#8) ||| (z &&& 0#8) = x by rw [BitVec.and_zero, BitVec.or_zero, BitVec.not_zero, BitVec.and_allOnes]]
/-- A byte is what its bits make. -/
theorem of_bits (b : Int) (b0 : 0 ≤ b) (b1 : b ≤ 255) (f : Nat → Bool) (hf : ∀ i, i < 8 → f i = rbit b i) : ofTo [f 0, f 1, f 2, f 3, f 4, f 5, f 6, f 7] 8 = b := by
  obtain ⟨x, rfl⟩ := bv_of b b0 b1
  rw [hf 0 (by omega), hf 1 (by omega), hf 2 (by omega), hf 3 (by omega), hf 4 (by omega), hf 5 (by omega), hf 6 (by omega), hf 7 (by omega)]
  rw [bv_bit x 0 (by omega), bv_bit x 1 (by omega), bv_bit x 2 (by omega), bv_bit x 3 (by omega), bv_bit x 4 (by omega), bv_bit x 5 (by omega), bv_bit x 6 (by omega), bv_bit x 7 (by omega)]
  exact bv_all x
end Go.Proofs.YtccimkmlbcgekaaGreat
