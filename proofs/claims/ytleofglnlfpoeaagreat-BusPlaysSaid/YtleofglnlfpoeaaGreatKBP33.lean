/-
  Texts of these proofs, one behind the other: G17, Ram9, Rb1.
-/
import Derived.Test.YtleofglnlfpoeaaGreatKBP04
import Derived.Test.YtleofglnlfpoeaaGreatKBP03
import Derived.Test.YtleofglnlfpoeaaGreatKBP32
import Derived.Test.YtleofglnlfpoeaaGreatKBP07
import Derived.IntWalk
import Derived.Deep.Cut
import Derived.Deep.CutRange
import Derived.Test.YtleofglnlfpoeaaGreatKBP28
namespace Go.Proofs.YtleofglnlfpoeaaGreat
open Go.ChangeShapes Go.WideShapes Go.Deep Go.RowKit
set_option linter.unusedVariables false
def I2Row (w : World) (k0 k1 : IntKind) (A : Option Addr) (m : Nat) (ps : Nat → Int × Int) : Prop :=
  ∀ i, i < m → ∃ ad : Addr, A = some ad ∧ ad.block < w.heap.size ∧ w.cell? (ad.add (i * 2)) = some (.int k0 (ps i).1) ∧ w.cell? (ad.add (i * 2 + 1)) = some (.int k1 (ps i).2) ∧ (Lit.int k0 (ps i).1).wf = true ∧ (Lit.int k1 (ps i).2).wf = true
theorem I2Row.keep {w w' : World} {k0 k1 : IntKind} {A : Option Addr} {m : Nat} {ps : Nat → Int × Int} (h : I2Row w k0 k1 A m ps) (hb : Below w.heap.size w w') : I2Row w' k0 k1 A m ps := fun i hi => by
  obtain ⟨ad, e, hl, h1, h2, h3⟩ := h i hi
  exact ⟨ad, e, Nat.lt_of_lt_of_le hl hb.size, (hb.cell (by rw [block_of_add]; exact hl)).trans h1, (hb.cell (by rw [block_of_add]; exact hl)).trans h2, h3⟩
section
variable {H : Type} {enc : TypeId × Value → H} {P : Program} {w : World} {base : Nat} {r : Reach} {b0 : Nat} {t e : TypeId} {v : Value} {d : DataW H} {ps : List MemPlace} {f0 f1 : Field}
end
end Go.Proofs.YtleofglnlfpoeaaGreat
namespace Go.Proofs.YtleofglnlfpoeaaGreat
open Go.RowKit
set_option linter.unusedVariables false
set_option linter.unusedSimpArgs false
set_option maxRecDepth 100000
/-- The first 8192 cells are these bytes. -/
def BAt (C : List Value) (f : Nat → Int) : Prop := ∀ i, i < 8192 → C[i]? = some (.int .u8 (f i))
theorem BAt.row {w : World} {g : Nat} {C : List Value} {f : Nat → Int} (h : Blk w g 5 C.toArray) (hA : BAt C f) (hw : ∀ i, (Lit.int .u8 (f i)).wf = true) : IRow w .u8 (some ⟨g, 0, none⟩) 8192 f := fun i hi =>
  ⟨_, rfl, h.lt, by rw [add_zero_block, h.cell]; simpa using hA i hi, hw i⟩
/-- Memory at g and a row of bytes at gp have the same bytes. -/
def Both (w : World) (g gp : Nat) (mb : Option Nat) (f : Nat → Int) : Prop := RD w g mb f ∧ ∃ C : List Value, Blk w gp 5 C.toArray ∧ BAt C f
def Grew (w : World) (mb mb' : Option Nat) : Prop := mb' = mb ∨ ∃ b', mb' = some b' ∧ w.heap.size ≤ b'
theorem Grew.trans {w w1 : World} {a b c : Option Nat} (h : Grew w a b) (k : Grew w1 b c) (hs : w.heap.size ≤ w1.heap.size) : Grew w a c := by
  rcases k with k | ⟨y, k, k2⟩
  · rw [k]; exact h
  · exact .inr ⟨y, k, by omega⟩
theorem Grew.off {w : World} {a b : Option Nat} (h : Grew w a b) (x : Nat) (e : b = some x) : a = some x ∨ w.heap.size ≤ x := by
  rcases h with h | ⟨y, h, h2⟩
  · exact .inl (h ▸ e)
  · rw [h] at e; cases e; exact .inr h2
theorem set_arr_ (C : List Value) (i : Nat) (u : Value) : (List.toArray C).setIfInBounds i u = List.toArray (C.set i u) := by simp
theorem BAt.wr {C : List Value} {f : Nat → Int} (h : BAt C f) (a b : Int) (a0 : 0 ≤ a) (a1 : a ≤ 65535) : BAt (C.set (a % 8192).toNat (.int .u8 b)) (fw f a b) := fun i hi => by
  have hl : i < C.length := (List.getElem?_eq_some_iff.1 (h i hi)).1
  rw [List.getElem?_set]
  unfold fw
  by_cases e : (a % 8192).toNat = i
  · rw [if_pos e, if_pos (by omega), if_pos e.symm]
  · rw [if_neg e, h i hi, if_neg (by omega)]
end Go.Proofs.YtleofglnlfpoeaaGreat
namespace Go.Proofs.YtleofglnlfpoeaaGreat
open Go.RowKit
set_option linter.unusedVariables false
set_option linter.unusedSimpArgs false
set_option maxRecDepth 100000
/-- Where the reference's bus's things are. -/
structure Rbp where
  A : Option Addr
  ca : Nat
  m : Nat
  mc : Nat
  p : Nat
  J : Rr
  Z : Rz
  c : Nat
  tr : Value
def rbuC (Q : Rbp) (s : Bs) : Array Value := #[.slice Q.A s.rn Q.ca, .slice (some ⟨Q.m, 0, none⟩) 8192 Q.mc, .pointer (some ⟨Q.p, 0, none⟩), .pointer (some ⟨Q.c, 0, none⟩), .int .i64 s.left, .bool s.over, Q.tr]
def rbL (g : Nat) (Q : Rbp) : List Nat := g :: Q.m :: Q.c :: (Q.J.all Q.p ++ Q.tr.ownBlock.toList)
/-- A bus of the reference's, made since W; nx is what its clock was asked for at last. -/
structure RBU (W w : World) (g : Nat) (d : Hd) (Q : Rbp) (s : Bs) (nx : Bool) : Prop where
  blk : Blk w g 54 (rbuC Q s)
  ram : ∃ C : List Value, Blk w Q.m 5 C.toArray ∧ BAt C s.f
  ck : Blk w Q.c 142 (rk s.now s.cyc s.fast s.asked nx)
  pg : RHp w Q.p d Q.J Q.Z s.x
  tr : w.ownsRow 0 62 5 Q.tr s.tl.length (accL s.tl)
  old : Below W.heap.size W w
  new : ∀ y ∈ rbL g Q, W.heap.size ≤ y
  rom : IRow W .u8 Q.A s.rn s.rz
  nx : s.asked = true → nx = s.next
  cap : 8192 ≤ Q.mc ∧ Q.mc ≤ maxLen ∧ s.rn ≤ Q.ca ∧ Q.ca ≤ maxLen
section
variable {W w w' : World} {g : Nat} {d : Hd} {Q : Rbp} {s : Bs} {nx : Bool} {L : List Nat}
theorem mem_rbL {y : Nat} : y ∈ rbL g Q ↔ y = g ∨ y = Q.m ∨ y = Q.c ∨ y ∈ Q.J.all Q.p ∨ Q.tr.ownBlock = some y := by
  simp only [rbL, List.mem_cons, List.mem_append, Option.mem_toList, Option.mem_def]
/-- What blocks they are. -/
theorem RBU.typed (h : RBU W w g d Q s nx) : (∀ y ∈ Q.J.all Q.p, ∃ t cs, Blk w y t cs ∧ t ≠ 54 ∧ t ≠ 5 ∧ t ≠ 142 ∧ t ≠ 62 ∧ t ≠ 154) ∧ ∀ b, Q.tr.ownBlock = some b → ∃ cs, Blk w b 62 cs := by
  refine ⟨fun y hy => ?_, fun b hb => tr_blk h.tr b hb⟩
  simp only [Rr.all, List.mem_cons, List.not_mem_nil, or_false] at hy
  rcases hy with rfl | rfl | rfl | rfl | rfl | rfl | rfl
  · exact ⟨_, _, h.pg.pg, by decide⟩
  · exact ⟨_, _, h.pg.tm.1, by decide⟩
  · exact ⟨_, _, h.pg.q.1, by decide⟩
  · exact ⟨_, _, h.pg.pt.1, by decide⟩
  · exact ⟨_, _, h.pg.v, by decide⟩
  · exact ⟨_, _, h.pg.c, by decide⟩
  · exact ⟨_, _, h.pg.l, by decide⟩
theorem RBU.lt (h : RBU W w g d Q s nx) : ∀ y ∈ rbL g Q, y < w.heap.size := by
  intro y hy
  obtain ⟨C, hC, _⟩ := h.ram
  rcases mem_rbL.1 hy with rfl | rfl | rfl | e | e
  · exact h.blk.lt
  · exact hC.lt
  · exact h.ck.lt
  · obtain ⟨t, cs, hb, _⟩ := h.typed.1 y e; exact hb.lt
  · obtain ⟨cs, hb⟩ := h.typed.2 y e; exact hb.lt
/-- All are things apart. -/
theorem RBU.nes (h : RBU W w g d Q s nx) : (g ≠ Q.m ∧ g ≠ Q.c ∧ Q.m ≠ Q.c) ∧ (∀ y ∈ Q.J.all Q.p, y ≠ g ∧ y ≠ Q.m ∧ y ≠ Q.c) ∧ ∀ b, Q.tr.ownBlock = some b → b ≠ g ∧ b ≠ Q.m ∧ b ≠ Q.c ∧ b ∉ Q.J.all Q.p := by
  obtain ⟨C, hC, _⟩ := h.ram
  refine ⟨⟨h.blk.ne_ hC (by decide), h.blk.ne_ h.ck (by decide), hC.ne_ h.ck (by decide)⟩, fun y hy => ?_, fun b hb => ?_⟩
  · obtain ⟨t, cs, hb, n1, n2, n3, n4, n5⟩ := h.typed.1 y hy
    exact ⟨hb.ne_ h.blk n1, hb.ne_ hC n2, hb.ne_ h.ck n3⟩
  · obtain ⟨cs, hb'⟩ := h.typed.2 b hb
    refine ⟨hb'.ne_ h.blk (by decide), hb'.ne_ hC (by decide), hb'.ne_ h.ck (by decide), fun hy => ?_⟩
    obtain ⟨t, cs', hb2, n1, n2, n3, n4, n5⟩ := h.typed.1 b hy
    exact hb2.ne_ hb' n4 rfl
theorem rhp_kpL {r : Nat} {J : Rr} {Z : Rz} {x : Hp} (h : RHp w r d J Z x) (k : Kp L w w') (hL : ∀ y ∈ J.all r, y ∉ L) : RHp w' r d J Z x :=
  h.kp k ⟨hL _ (by simp [Rr.all]), hL _ (by simp [Rr.all]), hL _ (by simp [Rr.all]), hL _ (by simp [Rr.all]), hL _ (by simp [Rr.all]), hL _ (by simp [Rr.all]), hL _ (by simp [Rr.all])⟩
theorem RBU.kp (h : RBU W w g d Q s nx) (k : Kp L w w') (hL : ∀ y ∈ rbL g Q, y ∉ L) (hlo : ∀ y ∈ L, W.heap.size ≤ y) : RBU W w' g d Q s nx := by
  obtain ⟨C, hC, hf⟩ := h.ram
  exact ⟨h.blk.kp k (hL _ (mem_rbL.2 (.inl rfl))), ⟨C, hC.kp k (hL _ (mem_rbL.2 (.inr (.inl rfl)))), hf⟩, h.ck.kp k (hL _ (mem_rbL.2 (.inr (.inr (.inl rfl))))),
    rhp_kpL h.pg k (fun y hy => hL y (mem_rbL.2 (.inr (.inr (.inr (.inl hy)))))), own_kpL h.tr k (fun b e => hL b (mem_rbL.2 (.inr (.inr (.inr (.inr e)))))),
    k.onto h.old h.old.size hlo, h.new, h.rom, h.nx, h.cap⟩
theorem RBU.kp0 (h : RBU W w g d Q s nx) (k : Kp [] w w') : RBU W w' g d Q s nx := h.kp k (by simp) (by simp)
theorem RBU.keep (h : RBU W w g d Q s nx) (k : Below w.heap.size w w') : RBU W w' g d Q s nx := h.kp0 (Kp.of_below k)
theorem RBU.lo (h : RBU W w g d Q s nx) (hs : ∀ y ∈ L, y ∈ rbL g Q) : ∀ y ∈ L, W.heap.size ≤ y := fun y hy => h.new y (hs y hy)
/-- Its own cells change alone. -/
theorem RBU.own {s' : Bs} (h : RBU W w g d Q s nx) (k : Kp [g] w w') (hb : Blk w' g 54 (rbuC Q s')) (e : s' = { s with left := s'.left, over := s'.over }) : RBU W w' g d Q s' nx := by
  obtain ⟨⟨n1, n2, n3⟩, n4, n5⟩ := h.nes
  obtain ⟨C, hC, hf⟩ := h.ram
  have hlo := h.lo (L := [g]) (fun y hy => mem_rbL.2 (.inl (by simpa using hy)))
  have e1 : s'.f = s.f := by rw [e]
  have e2 : s'.now = s.now ∧ s'.cyc = s.cyc ∧ s'.fast = s.fast ∧ s'.asked = s.asked ∧ s'.next = s.next := by rw [e]; exact ⟨rfl, rfl, rfl, rfl, rfl⟩
  have e3 : s'.x = s.x := by rw [e]
  have e4 : s'.tl = s.tl := by rw [e]
  have e5 : s'.rn = s.rn ∧ s'.rz = s.rz := by rw [e]; exact ⟨rfl, rfl⟩
  refine ⟨hb, ⟨C, hC.kp k (by simpa using n1.symm), by rw [e1]; exact hf⟩, ?_, ?_, ?_, k.onto h.old h.old.size hlo, h.new, ?_, ?_, ?_⟩
  · rw [e2.1, e2.2.1, e2.2.2.1, e2.2.2.2.1]; exact h.ck.kp k (by simpa using n2.symm)
  · rw [e3]; exact rhp_kpL h.pg k (fun y hy => by simpa using (n4 y hy).1)
  · rw [e4]; exact own_kpL h.tr k (fun b e => by simpa using (n5 b e).1)
  · rw [e5.1, e5.2]; exact h.rom
  · rw [e2.2.2.2.1, e2.2.2.2.2]; exact h.nx
  · rw [e5.1]; exact h.cap
/-- Its clock changes alone. -/
theorem RBU.clk {s' : Bs} {nx' : Bool} (h : RBU W w g d Q s nx) (k : Kp [Q.c] w w') (hb : Blk w' Q.c 142 (rk s'.now s'.cyc s'.fast s'.asked nx')) (e : s' = { s with now := s'.now, cyc := s'.cyc, fast := s'.fast, asked := s'.asked, next := s'.next }) (hnx : s'.asked = true → nx' = s'.next) : RBU W w' g d Q s' nx' := by
  obtain ⟨⟨n1, n2, n3⟩, n4, n5⟩ := h.nes
  obtain ⟨C, hC, hf⟩ := h.ram
  have hlo := h.lo (L := [Q.c]) (fun y hy => mem_rbL.2 (.inr (.inr (.inl (by simpa using hy)))))
  have e1 : s'.f = s.f := by rw [e]
  have e2 : rbuC Q s' = rbuC Q s := by rw [e]; rfl
  have e3 : s'.x = s.x := by rw [e]
  have e4 : s'.tl = s.tl := by rw [e]
  have e5 : s'.rn = s.rn ∧ s'.rz = s.rz := by rw [e]; exact ⟨rfl, rfl⟩
  refine ⟨by rw [e2]; exact h.blk.kp k (by simpa using n2), ⟨C, hC.kp k (by simpa using n3), by rw [e1]; exact hf⟩, hb, ?_, ?_, k.onto h.old h.old.size hlo, h.new, ?_, hnx, ?_⟩
  · rw [e3]; exact rhp_kpL h.pg k (fun y hy => by simpa using (n4 y hy).2.2)
  · rw [e4]; exact own_kpL h.tr k (fun b e => by simpa using (n5 b e).2.2.1)
  · rw [e5.1, e5.2]; exact h.rom
  · rw [e5.1]; exact h.cap
/-- Its page changes alone. -/
theorem RBU.page {y : Hp} (h : RBU W w g d Q s nx) (k : Kp (Q.J.all Q.p) w w') (hp : RHp w' Q.p d Q.J Q.Z y) : RBU W w' g d Q { s with x := y } nx := by
  obtain ⟨⟨n1, n2, n3⟩, n4, n5⟩ := h.nes
  obtain ⟨C, hC, hf⟩ := h.ram
  have hlo := h.lo (L := Q.J.all Q.p) (fun y hy => mem_rbL.2 (.inr (.inr (.inr (.inl hy)))))
  exact ⟨h.blk.kp k (fun hy => (n4 _ hy).1 rfl), ⟨C, hC.kp k (fun hy => (n4 _ hy).2.1 rfl), hf⟩, h.ck.kp k (fun hy => (n4 _ hy).2.2 rfl), hp, own_kpL h.tr k (fun b e => (n5 b e).2.2.2), k.onto h.old h.old.size hlo, h.new, h.rom, h.nx, h.cap⟩
/-- Its work memory changes alone. -/
theorem RBU.mem {f' : Nat → Int} {C' : List Value} (h : RBU W w g d Q s nx) (k : Kp [Q.m] w w') (hm : Blk w' Q.m 5 C'.toArray) (hf : BAt C' f') : RBU W w' g d Q { s with f := f' } nx := by
  obtain ⟨⟨n1, n2, n3⟩, n4, n5⟩ := h.nes
  have hlo := h.lo (L := [Q.m]) (fun y hy => mem_rbL.2 (.inr (.inl (by simpa using hy))))
  exact ⟨h.blk.kp k (by simpa using n1), ⟨C', hm, hf⟩, h.ck.kp k (by simpa using n3.symm), rhp_kpL h.pg k (fun y hy => by simpa using (n4 y hy).2.1), own_kpL h.tr k (fun b e => by simpa using (n5 b e).2.1), k.onto h.old h.old.size hlo, h.new, h.rom, h.nx, h.cap⟩
end
/-- What a call on the reference's bus leaves. -/
def RbR (v : Value) (W : World) (g : Nat) (d : Hd) (Q : Rbp) (s : Bs) (nx : Bool) (w : World) (e : Ending) (w' : World) : Prop :=
  ∃ t, e = .returned v ∧ RBU W w' g d { Q with tr := t } s nx ∧ Kp (rbL g Q) w w' ∧ ∀ y ∈ rbL g { Q with tr := t }, y ∈ rbL g Q ∨ w.heap.size ≤ y
section
variable {W w w' : World} {g : Nat} {d : Hd} {Q : Rbp} {s : Bs} {nx : Bool} {L : List Nat}
/-- An access more is told. -/
theorem RBU.told (h : RBU W w g d Q s nx) (a : Acc) {v' : Value} {w5 : World} (own : w5.ownsRow 0 62 5 v' (s.tl.length + 1) (accL s.tl ++ accC a))
    (gb : (w.alloc (.cells (accC a).toArray 62)).grownBy w5 Q.tr.ownBlock) (fr : v'.ownBlock = Q.tr.ownBlock ∨ v'.ownBlock = some (w.heap.size + 1)) :
    (∀ v, RbR v W g d Q { s with tl := s.tl ++ [a] } nx w (.returned v) (w5.setCell ⟨g, 6, none⟩ v')) ∧ (w5.cell? ⟨g, 6, none⟩ = some Q.tr ∧ w5.frozen? ⟨g, 6, none⟩ = false) := by
  have ka : Kp [] w (w.alloc (.cells (accC a).toArray 62)) := (Kp.refl _ _).alloc _
  have kb : Kp Q.tr.ownBlock.toList (w.alloc (.cells (accC a).toArray 62)) w5 := ⟨gb.os, gb.tape, gb.output, gb.size, fun k hk hr => gb.block k hk (fun e => hr (by rw [← e]; simp))⟩
  have k1 : Kp Q.tr.ownBlock.toList w w5 := (ka.mono (by simp)).trans kb (fun y hy => .inl hy)
  have k2 : Kp [g] w5 (w5.setCell ⟨g, 6, none⟩ v') := (Kp.refl _ _).setCell (p := ⟨g, 6, none⟩) (.inl (by simp)) _
  have k3 : Kp (g :: Q.tr.ownBlock.toList) w (w5.setCell ⟨g, 6, none⟩ v') := (k1.mono (fun y hy => List.mem_cons_of_mem _ hy)).trans (k2.mono (M := g :: Q.tr.ownBlock.toList) (by simp)) (fun y hy => .inl hy)
  obtain ⟨⟨n1, n2, n3⟩, n4, n5⟩ := h.nes
  obtain ⟨C, hC, hf⟩ := h.ram
  have off : ∀ y, y ≠ g → (∀ b, Q.tr.ownBlock = some b → b ≠ y) → y ∉ g :: Q.tr.ownBlock.toList := fun y h1 h2 hy => by
    simp only [List.mem_cons, Option.mem_toList, Option.mem_def] at hy
    rcases hy with rfl | e
    · exact h1 rfl
    · exact h2 y e rfl
  have hgt : g ∉ Q.tr.ownBlock.toList := fun hy => by
    simp only [Option.mem_toList, Option.mem_def] at hy
    exact (n5 g hy).1 rfl
  have hsub : ∀ y ∈ g :: Q.tr.ownBlock.toList, y ∈ rbL g Q := fun y hy => mem_rbL.2 (by
    simp only [List.mem_cons, Option.mem_toList, Option.mem_def] at hy
    rcases hy with hy | hy <;> simp [hy])
  have hglt := h.blk.lt
  have hb5 := h.blk.kp k1 hgt
  refine ⟨fun v => ⟨v', rfl, ⟨hb5.set_ 6 v', ⟨C, hC.kp k3 (off _ n1.symm (fun b e => (n5 b e).2.1)), hf⟩, h.ck.kp k3 (off _ n2.symm (fun b e => (n5 b e).2.2.1)), rhp_kpL h.pg k3 (fun y hy => off _ (n4 y hy).1 (fun b e e2 => (n5 b e).2.2.2 (e2 ▸ hy))), ?_, k3.onto h.old h.old.size (h.lo hsub), ?_, h.rom, h.nx, h.cap⟩, k3.mono hsub, ?_⟩, hb5.cell 6, hb5.frozen 6⟩
  · show (w5.setCell ⟨g, 6, none⟩ v').ownsRow 0 62 5 v' (s.tl ++ [a]).length (accL (s.tl ++ [a]))
    rw [accL_snoc, List.length_append]
    refine own_kpL own k2 fun b e hy => ?_
    obtain rfl : b = g := by simpa using hy
    rcases fr with fr | fr
    · rw [fr] at e; exact hgt (by simp [e])
    · rw [fr] at e; injection e with e; omega
  · intro y hy
    rcases mem_rbL.1 hy with e | e | e | e | e
    · exact h.new y (mem_rbL.2 (.inl e))
    · exact h.new y (mem_rbL.2 (.inr (.inl e)))
    · exact h.new y (mem_rbL.2 (.inr (.inr (.inl e))))
    · exact h.new y (mem_rbL.2 (.inr (.inr (.inr (.inl e)))))
    · have e : v'.ownBlock = some y := e
      rcases fr with fr | fr
      · rw [fr] at e; exact h.new y (mem_rbL.2 (.inr (.inr (.inr (.inr e)))))
      · rw [fr] at e; injection e with e; have := h.old.size; omega
  · intro y hy
    rcases mem_rbL.1 hy with e | e | e | e | e
    · exact .inl (mem_rbL.2 (.inl e))
    · exact .inl (mem_rbL.2 (.inr (.inl e)))
    · exact .inl (mem_rbL.2 (.inr (.inr (.inl e))))
    · exact .inl (mem_rbL.2 (.inr (.inr (.inr (.inl e)))))
    · have e : v'.ownBlock = some y := e
      rcases fr with fr | fr
      · rw [fr] at e; exact .inl (mem_rbL.2 (.inr (.inr (.inr (.inr e)))))
      · rw [fr] at e; injection e with e; right; omega
end
section
variable {W w w1 w' : World} {g : Nat} {d : Hd} {Q : Rbp} {s s1 : Bs} {nx nx1 : Bool}
theorem RbR.mk0 {v : Value} (h : RBU W w' g d Q s nx) (k : Kp (rbL g Q) w w') : RbR v W g d Q s nx w (.returned v) w' := ⟨Q.tr, rfl, h, k, fun y hy => .inl hy⟩
/-- Calls one behind the other. -/
theorem RbR.after {v t : Value} {e : Ending} (k1 : Kp (rbL g Q) w w1) (f1 : ∀ y ∈ rbL g { Q with tr := t }, y ∈ rbL g Q ∨ w.heap.size ≤ y) (h : RbR v W g d { Q with tr := t } s nx w1 e w') : RbR v W g d Q s nx w e w' := by
  obtain ⟨t', rfl, hb, k, fr⟩ := h
  refine ⟨t', rfl, hb, k1.trans k f1, fun y hy => ?_⟩
  rcases fr y hy with h1 | h1
  · exact f1 y h1
  · exact .inr (Nat.le_trans k1.size h1)
theorem RBU.cells (h : RBU W w g d Q s nx) : w.cell? ⟨g, 0, none⟩ = some (.slice Q.A s.rn Q.ca) ∧ w.cell? ⟨g, 1, none⟩ = some (.slice (some ⟨Q.m, 0, none⟩) 8192 Q.mc) ∧ w.cell? ⟨g, 2, none⟩ = some (.pointer (some ⟨Q.p, 0, none⟩)) ∧ w.cell? ⟨g, 3, none⟩ = some (.pointer (some ⟨Q.c, 0, none⟩)) ∧ w.cell? ⟨g, 4, none⟩ = some (.int .i64 s.left) ∧ w.cell? ⟨g, 5, none⟩ = some (.bool s.over) ∧ w.cell? ⟨g, 6, none⟩ = some Q.tr :=
  ⟨h.blk.cell 0, h.blk.cell 1, h.blk.cell 2, h.blk.cell 3, h.blk.cell 4, h.blk.cell 5, h.blk.cell 6⟩
theorem RBU.rw (h : RBU W w g d Q s nx) (C : HC W d Q.Z) : Rws w d Q.Z := C.rw.keep h.old
theorem RBU.eoff (h : RBU W w g d Q s nx) (C : HC W d Q.Z) : EOff Q.Z d.n Q.J := fun ad e hn => by
  obtain ⟨ad2, e2, hl, _⟩ := C.rw.e 0 hn
  rw [e] at e2
  cases e2
  have := h.new Q.J.l (mem_rbL.2 (.inr (.inr (.inr (.inl (by simp [Rr.all]))))))
  simp; omega
/-- The page goes on. -/
theorem rbto_any (h : RBU W w g d Q s nx) (C : HC W d Q.Z) (hok : s.x.ok d) (hG : Good d.n d.es) (t : Int) (ht : t ≤ 9223372036854775807) :
    Calls Tryz.prog 138 #[.pointer (some ⟨Q.p, 0, none⟩), .int .i64 t] w (RbR (.tuple #[]) W g d Q { s with x := s.x.to d t } nx w) := by
  have hlo := h.lo (L := Q.J.all Q.p) (fun y hy => mem_rbL.2 (.inr (.inr (.inr (.inl hy)))))
  refine (rhto_any h.pg hok hG (h.rw C).e (fun w' k => (C.rw.keep (k.onto h.old h.old.size hlo)).e) (h.eoff C) t ht).mono ?_
  rintro e w1 ⟨rfl, hp, k⟩
  exact RbR.mk0 (h.page k hp) (k.mono (fun y hy => mem_rbL.2 (.inr (.inr (.inr (.inl hy))))))
end
end Go.Proofs.YtleofglnlfpoeaaGreat
