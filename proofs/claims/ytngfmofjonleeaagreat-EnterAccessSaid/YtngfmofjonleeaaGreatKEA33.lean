/-
  Texts of these proofs, one behind the other: Rb1, Rb2, Rb3, Bus7.
-/
import Derived.Test.YtngfmofjonleeaaGreatKEA31
import Derived.Test.YtngfmofjonleeaaGreatKEA32
import Derived.Test.YtngfmofjonleeaaGreatKEA04
import Derived.Test.YtngfmofjonleeaaGreatKEA28
import Derived.Test.YtngfmofjonleeaaGreatKEA23
import Derived.Deep.Cut
import Derived.Deep.CutRange
import Derived.Deep.CutBlock
import Derived.Deep.RegionHeld3
import Derived.Test.YtngfmofjonleeaaGreatKEA06
namespace Go.Proofs.YtngfmofjonleeaaGreat
open Go.RowKit
set_option linter.unusedVariables false
set_option linter.unusedSimpArgs false
set_option maxRecDepth 100000
/-- Where the reference's bus's things are. -/
structure Rbp where
  A : Option Addr
  ca : Nat
  m : Nat
  mc : Nat
  p : Nat
  J : Rr
  Z : Rz
  c : Nat
  tr : Value
def rbuC (Q : Rbp) (s : Bs) : Array Value := #[.slice Q.A s.rn Q.ca, .slice (some ⟨Q.m, 0, none⟩) 8192 Q.mc, .pointer (some ⟨Q.p, 0, none⟩), .pointer (some ⟨Q.c, 0, none⟩), .int .i64 s.left, .bool s.over, Q.tr]
def rbL (g : Nat) (Q : Rbp) : List Nat := g :: Q.m :: Q.c :: (Q.J.all Q.p ++ Q.tr.ownBlock.toList)
/-- A bus of the reference's, made since W; nx is what its clock was asked for at last. -/
structure RBU (W w : World) (g : Nat) (d : Hd) (Q : Rbp) (s : Bs) (nx : Bool) : Prop where
  blk : Blk w g 56 (rbuC Q s)
  ram : ∃ C : List Value, Blk w Q.m 5 C.toArray ∧ BAt C s.f
  ck : Blk w Q.c 161 (rk s.now s.cyc s.fast s.asked nx)
  pg : RHp w Q.p d Q.J Q.Z s.x
  tr : w.ownsRow 0 129 5 Q.tr s.tl.length (accL s.tl)
  old : Below W.heap.size W w
  new : ∀ y ∈ rbL g Q, W.heap.size ≤ y
  rom : IRow w .u8 Q.A s.rn s.rz
  rof : ∀ ad, Q.A = some ad → (∃ C, Blk w ad.block 5 C) ∧ ad.block ∉ rbL g Q
  nx : s.asked = true → nx = s.next
  cap : 8192 ≤ Q.mc ∧ Q.mc ≤ maxLen ∧ s.rn ≤ Q.ca ∧ Q.ca ≤ maxLen
section
variable {W w w' : World} {g : Nat} {d : Hd} {Q : Rbp} {s : Bs} {nx : Bool} {L : List Nat}
theorem mem_rbL {y : Nat} : y ∈ rbL g Q ↔ y = g ∨ y = Q.m ∨ y = Q.c ∨ y ∈ Q.J.all Q.p ∨ Q.tr.ownBlock = some y := by
  simp only [rbL, List.mem_cons, List.mem_append, Option.mem_toList, Option.mem_def]
/-- What blocks they are. -/
theorem RBU.typed (h : RBU W w g d Q s nx) : (∀ y ∈ Q.J.all Q.p, ∃ t cs, Blk w y t cs ∧ t ≠ 56 ∧ t ≠ 5 ∧ t ≠ 161 ∧ t ≠ 129 ∧ t ≠ 150) ∧ ∀ b, Q.tr.ownBlock = some b → ∃ cs, Blk w b 129 cs := by
  refine ⟨fun y hy => ?_, fun b hb => tr_blk h.tr b hb⟩
  simp only [Rr.all, List.mem_cons, List.not_mem_nil, or_false] at hy
  rcases hy with rfl | rfl | rfl | rfl | rfl | rfl | rfl
  · exact ⟨_, _, h.pg.pg, by decide⟩
  · exact ⟨_, _, h.pg.tm.1, by decide⟩
  · exact ⟨_, _, h.pg.q.1, by decide⟩
  · exact ⟨_, _, h.pg.pt.1, by decide⟩
  · exact ⟨_, _, h.pg.v, by decide⟩
  · exact ⟨_, _, h.pg.c, by decide⟩
  · exact ⟨_, _, h.pg.l, by decide⟩
theorem RBU.lt (h : RBU W w g d Q s nx) : ∀ y ∈ rbL g Q, y < w.heap.size := by
  intro y hy
  obtain ⟨C, hC, _⟩ := h.ram
  rcases mem_rbL.1 hy with rfl | rfl | rfl | e | e
  · exact h.blk.lt
  · exact hC.lt
  · exact h.ck.lt
  · obtain ⟨t, cs, hb, _⟩ := h.typed.1 y e; exact hb.lt
  · obtain ⟨cs, hb⟩ := h.typed.2 y e; exact hb.lt
/-- All are things apart. -/
theorem RBU.nes (h : RBU W w g d Q s nx) : (g ≠ Q.m ∧ g ≠ Q.c ∧ Q.m ≠ Q.c) ∧ (∀ y ∈ Q.J.all Q.p, y ≠ g ∧ y ≠ Q.m ∧ y ≠ Q.c) ∧ ∀ b, Q.tr.ownBlock = some b → b ≠ g ∧ b ≠ Q.m ∧ b ≠ Q.c ∧ b ∉ Q.J.all Q.p := by
  obtain ⟨C, hC, _⟩ := h.ram
  refine ⟨⟨h.blk.ne_ hC (by decide), h.blk.ne_ h.ck (by decide), hC.ne_ h.ck (by decide)⟩, fun y hy => ?_, fun b hb => ?_⟩
  · obtain ⟨t, cs, hb, n1, n2, n3, n4, n5⟩ := h.typed.1 y hy
    exact ⟨hb.ne_ h.blk n1, hb.ne_ hC n2, hb.ne_ h.ck n3⟩
  · obtain ⟨cs, hb'⟩ := h.typed.2 b hb
    refine ⟨hb'.ne_ h.blk (by decide), hb'.ne_ hC (by decide), hb'.ne_ h.ck (by decide), fun hy => ?_⟩
    obtain ⟨t, cs', hb2, n1, n2, n3, n4, n5⟩ := h.typed.1 b hy
    exact hb2.ne_ hb' n4 rfl
theorem rhp_kpL {r : Nat} {J : Rr} {Z : Rz} {x : Hp} (h : RHp w r d J Z x) (k : Kp L w w') (hL : ∀ y ∈ J.all r, y ∉ L) : RHp w' r d J Z x :=
  h.kp k ⟨hL _ (by simp [Rr.all]), hL _ (by simp [Rr.all]), hL _ (by simp [Rr.all]), hL _ (by simp [Rr.all]), hL _ (by simp [Rr.all]), hL _ (by simp [Rr.all]), hL _ (by simp [Rr.all])⟩
theorem RBU.romL (h : RBU W w g d Q s nx) (k : Kp L w w') (hs : ∀ y ∈ L, y ∈ rbL g Q) : IRow w' .u8 Q.A s.rn s.rz :=
  h.rom.kp k (fun ad e hy => (h.rof ad e).2 (hs _ hy))
theorem RBU.rofL (h : RBU W w g d Q s nx) (k : Kp L w w') (hr : ∀ ad, Q.A = some ad → ad.block ∉ L) : ∀ ad, Q.A = some ad → (∃ C, Blk w' ad.block 5 C) ∧ ad.block ∉ rbL g Q := fun ad e => by
  obtain ⟨⟨C, hC⟩, h2⟩ := h.rof ad e
  exact ⟨⟨C, hC.kp k (hr ad e)⟩, h2⟩
theorem RBU.ralt (h : RBU W w g d Q s nx) : ∀ ad, Q.A = some ad → ad.block < w.heap.size := fun ad e => by
  obtain ⟨⟨C, hC⟩, _⟩ := h.rof ad e
  exact hC.lt
theorem RBU.rofS (h : RBU W w g d Q s nx) (hs : ∀ y ∈ L, y ∈ rbL g Q) : ∀ ad, Q.A = some ad → ad.block ∉ L := fun ad e hy => (h.rof ad e).2 (hs _ hy)
theorem RBU.kp (h : RBU W w g d Q s nx) (k : Kp L w w') (hL : ∀ y ∈ rbL g Q, y ∉ L) (hlo : ∀ y ∈ L, W.heap.size ≤ y) (hr : ∀ ad, Q.A = some ad → ad.block ∉ L) : RBU W w' g d Q s nx := by
  obtain ⟨C, hC, hf⟩ := h.ram
  exact ⟨h.blk.kp k (hL _ (mem_rbL.2 (.inl rfl))), ⟨C, hC.kp k (hL _ (mem_rbL.2 (.inr (.inl rfl)))), hf⟩, h.ck.kp k (hL _ (mem_rbL.2 (.inr (.inr (.inl rfl))))),
    rhp_kpL h.pg k (fun y hy => hL y (mem_rbL.2 (.inr (.inr (.inr (.inl hy)))))), own_kpL h.tr k (fun b e => hL b (mem_rbL.2 (.inr (.inr (.inr (.inr e)))))),
    k.onto h.old h.old.size hlo, h.new, h.rom.kp k hr, h.rofL k hr, h.nx, h.cap⟩
theorem RBU.kp0 (h : RBU W w g d Q s nx) (k : Kp [] w w') : RBU W w' g d Q s nx := h.kp k (by simp) (by simp) (by simp)
theorem RBU.keep (h : RBU W w g d Q s nx) (k : Below w.heap.size w w') : RBU W w' g d Q s nx := h.kp0 (Kp.of_below k)
theorem RBU.lo (h : RBU W w g d Q s nx) (hs : ∀ y ∈ L, y ∈ rbL g Q) : ∀ y ∈ L, W.heap.size ≤ y := fun y hy => h.new y (hs y hy)
/-- Its own cells change alone. -/
theorem RBU.own {s' : Bs} (h : RBU W w g d Q s nx) (k : Kp [g] w w') (hb : Blk w' g 56 (rbuC Q s')) (e : s' = { s with left := s'.left, over := s'.over }) : RBU W w' g d Q s' nx := by
  obtain ⟨⟨n1, n2, n3⟩, n4, n5⟩ := h.nes
  obtain ⟨C, hC, hf⟩ := h.ram
  have hlo := h.lo (L := [g]) (fun y hy => mem_rbL.2 (.inl (by simpa using hy)))
  have e1 : s'.f = s.f := by rw [e]
  have e2 : s'.now = s.now ∧ s'.cyc = s.cyc ∧ s'.fast = s.fast ∧ s'.asked = s.asked ∧ s'.next = s.next := by rw [e]; exact ⟨rfl, rfl, rfl, rfl, rfl⟩
  have e3 : s'.x = s.x := by rw [e]
  have e4 : s'.tl = s.tl := by rw [e]
  have e5 : s'.rn = s.rn ∧ s'.rz = s.rz := by rw [e]; exact ⟨rfl, rfl⟩
  refine ⟨hb, ⟨C, hC.kp k (by simpa using n1.symm), by rw [e1]; exact hf⟩, ?_, ?_, ?_, k.onto h.old h.old.size hlo, h.new, ?_, ?_, ?_, ?_⟩
  · rw [e2.1, e2.2.1, e2.2.2.1, e2.2.2.2.1]; exact h.ck.kp k (by simpa using n2.symm)
  · rw [e3]; exact rhp_kpL h.pg k (fun y hy => by simpa using (n4 y hy).1)
  · rw [e4]; exact own_kpL h.tr k (fun b e => by simpa using (n5 b e).1)
  · rw [e5.1, e5.2]; exact h.romL k (fun y hy => mem_rbL.2 (.inl (by simpa using hy)))
  · exact h.rofL k (h.rofS (fun y hy => mem_rbL.2 (.inl (by simpa using hy))))
  · rw [e2.2.2.2.1, e2.2.2.2.2]; exact h.nx
  · rw [e5.1]; exact h.cap
/-- Its clock changes alone. -/
theorem RBU.clk {s' : Bs} {nx' : Bool} (h : RBU W w g d Q s nx) (k : Kp [Q.c] w w') (hb : Blk w' Q.c 161 (rk s'.now s'.cyc s'.fast s'.asked nx')) (e : s' = { s with now := s'.now, cyc := s'.cyc, fast := s'.fast, asked := s'.asked, next := s'.next }) (hnx : s'.asked = true → nx' = s'.next) : RBU W w' g d Q s' nx' := by
  obtain ⟨⟨n1, n2, n3⟩, n4, n5⟩ := h.nes
  obtain ⟨C, hC, hf⟩ := h.ram
  have hlo := h.lo (L := [Q.c]) (fun y hy => mem_rbL.2 (.inr (.inr (.inl (by simpa using hy)))))
  have e1 : s'.f = s.f := by rw [e]
  have e2 : rbuC Q s' = rbuC Q s := by rw [e]; rfl
  have e3 : s'.x = s.x := by rw [e]
  have e4 : s'.tl = s.tl := by rw [e]
  have e5 : s'.rn = s.rn ∧ s'.rz = s.rz := by rw [e]; exact ⟨rfl, rfl⟩
  refine ⟨by rw [e2]; exact h.blk.kp k (by simpa using n2), ⟨C, hC.kp k (by simpa using n3), by rw [e1]; exact hf⟩, hb, ?_, ?_, k.onto h.old h.old.size hlo, h.new, ?_, ?_, hnx, ?_⟩
  · rw [e3]; exact rhp_kpL h.pg k (fun y hy => by simpa using (n4 y hy).2.2)
  · rw [e4]; exact own_kpL h.tr k (fun b e => by simpa using (n5 b e).2.2.1)
  · rw [e5.1, e5.2]; exact h.romL k (fun y hy => mem_rbL.2 (.inr (.inr (.inl (by simpa using hy)))))
  · exact h.rofL k (h.rofS (fun y hy => mem_rbL.2 (.inr (.inr (.inl (by simpa using hy))))))
  · rw [e5.1]; exact h.cap
/-- Its page changes alone. -/
theorem RBU.page {y : Hp} (h : RBU W w g d Q s nx) (k : Kp (Q.J.all Q.p) w w') (hp : RHp w' Q.p d Q.J Q.Z y) : RBU W w' g d Q { s with x := y } nx := by
  obtain ⟨⟨n1, n2, n3⟩, n4, n5⟩ := h.nes
  obtain ⟨C, hC, hf⟩ := h.ram
  have hlo := h.lo (L := Q.J.all Q.p) (fun y hy => mem_rbL.2 (.inr (.inr (.inr (.inl hy)))))
  exact ⟨h.blk.kp k (fun hy => (n4 _ hy).1 rfl), ⟨C, hC.kp k (fun hy => (n4 _ hy).2.1 rfl), hf⟩, h.ck.kp k (fun hy => (n4 _ hy).2.2 rfl), hp, own_kpL h.tr k (fun b e => (n5 b e).2.2.2), k.onto h.old h.old.size hlo, h.new, h.romL k (fun y hy => mem_rbL.2 (.inr (.inr (.inr (.inl hy))))), h.rofL k (h.rofS (fun y hy => mem_rbL.2 (.inr (.inr (.inr (.inl hy)))))), h.nx, h.cap⟩
/-- Its work memory changes alone. -/
theorem RBU.mem {f' : Nat → Int} {C' : List Value} (h : RBU W w g d Q s nx) (k : Kp [Q.m] w w') (hm : Blk w' Q.m 5 C'.toArray) (hf : BAt C' f') : RBU W w' g d Q { s with f := f' } nx := by
  obtain ⟨⟨n1, n2, n3⟩, n4, n5⟩ := h.nes
  have hlo := h.lo (L := [Q.m]) (fun y hy => mem_rbL.2 (.inr (.inl (by simpa using hy))))
  exact ⟨h.blk.kp k (by simpa using n1), ⟨C', hm, hf⟩, h.ck.kp k (by simpa using n3.symm), rhp_kpL h.pg k (fun y hy => by simpa using (n4 y hy).2.1), own_kpL h.tr k (fun b e => by simpa using (n5 b e).2.1), k.onto h.old h.old.size hlo, h.new, h.romL k (fun y hy => mem_rbL.2 (.inr (.inl (by simpa using hy)))), h.rofL k (h.rofS (fun y hy => mem_rbL.2 (.inr (.inl (by simpa using hy))))), h.nx, h.cap⟩
end
/-- What a call on the reference's bus leaves. -/
def RbR (v : Value) (W : World) (g : Nat) (d : Hd) (Q : Rbp) (s : Bs) (nx : Bool) (w : World) (e : Ending) (w' : World) : Prop :=
  ∃ t, e = .returned v ∧ RBU W w' g d { Q with tr := t } s nx ∧ Kp (rbL g Q) w w' ∧ ∀ y ∈ rbL g { Q with tr := t }, y ∈ rbL g Q ∨ w.heap.size ≤ y
section
variable {W w w' : World} {g : Nat} {d : Hd} {Q : Rbp} {s : Bs} {nx : Bool} {L : List Nat}
/-- An access more is told. -/
theorem RBU.told (h : RBU W w g d Q s nx) (a : Acc) {v' : Value} {w5 : World} (own : w5.ownsRow 0 129 5 v' (s.tl.length + 1) (accL s.tl ++ accC a))
    (gb : (w.alloc (.cells (accC a).toArray 129)).grownBy w5 Q.tr.ownBlock) (fr : v'.ownBlock = Q.tr.ownBlock ∨ v'.ownBlock = some (w.heap.size + 1)) :
    (∀ v, RbR v W g d Q { s with tl := s.tl ++ [a] } nx w (.returned v) (w5.setCell ⟨g, 6, none⟩ v')) ∧ (w5.cell? ⟨g, 6, none⟩ = some Q.tr ∧ w5.frozen? ⟨g, 6, none⟩ = false) := by
  have ka : Kp [] w (w.alloc (.cells (accC a).toArray 129)) := (Kp.refl _ _).alloc _
  have kb : Kp Q.tr.ownBlock.toList (w.alloc (.cells (accC a).toArray 129)) w5 := ⟨gb.os, gb.tape, gb.output, gb.size, fun k hk hr => gb.block k hk (fun e => hr (by rw [← e]; simp))⟩
  have k1 : Kp Q.tr.ownBlock.toList w w5 := (ka.mono (by simp)).trans kb (fun y hy => .inl hy)
  have k2 : Kp [g] w5 (w5.setCell ⟨g, 6, none⟩ v') := (Kp.refl _ _).setCell (p := ⟨g, 6, none⟩) (.inl (by simp)) _
  have k3 : Kp (g :: Q.tr.ownBlock.toList) w (w5.setCell ⟨g, 6, none⟩ v') := (k1.mono (fun y hy => List.mem_cons_of_mem _ hy)).trans (k2.mono (M := g :: Q.tr.ownBlock.toList) (by simp)) (fun y hy => .inl hy)
  obtain ⟨⟨n1, n2, n3⟩, n4, n5⟩ := h.nes
  obtain ⟨C, hC, hf⟩ := h.ram
  have off : ∀ y, y ≠ g → (∀ b, Q.tr.ownBlock = some b → b ≠ y) → y ∉ g :: Q.tr.ownBlock.toList := fun y h1 h2 hy => by
    simp only [List.mem_cons, Option.mem_toList, Option.mem_def] at hy
    rcases hy with rfl | e
    · exact h1 rfl
    · exact h2 y e rfl
  have hgt : g ∉ Q.tr.ownBlock.toList := fun hy => by
    simp only [Option.mem_toList, Option.mem_def] at hy
    exact (n5 g hy).1 rfl
  have hsub : ∀ y ∈ g :: Q.tr.ownBlock.toList, y ∈ rbL g Q := fun y hy => mem_rbL.2 (by
    simp only [List.mem_cons, Option.mem_toList, Option.mem_def] at hy
    rcases hy with hy | hy <;> simp [hy])
  have hglt := h.blk.lt
  have hb5 := h.blk.kp k1 hgt
  refine ⟨fun v => ⟨v', rfl, ⟨hb5.set_ 6 v', ⟨C, hC.kp k3 (off _ n1.symm (fun b e => (n5 b e).2.1)), hf⟩, h.ck.kp k3 (off _ n2.symm (fun b e => (n5 b e).2.2.1)), rhp_kpL h.pg k3 (fun y hy => off _ (n4 y hy).1 (fun b e e2 => (n5 b e).2.2.2 (e2 ▸ hy))), ?_, k3.onto h.old h.old.size (h.lo hsub), ?_, h.romL k3 hsub, ?_, h.nx, h.cap⟩, k3.mono hsub, ?_⟩, hb5.cell 6, hb5.frozen 6⟩
  · show (w5.setCell ⟨g, 6, none⟩ v').ownsRow 0 129 5 v' (s.tl ++ [a]).length (accL (s.tl ++ [a]))
    rw [accL_snoc, List.length_append]
    refine own_kpL own k2 fun b e hy => ?_
    obtain rfl : b = g := by simpa using hy
    rcases fr with fr | fr
    · rw [fr] at e; exact hgt (by simp [e])
    · rw [fr] at e; injection e with e; omega
  · intro y hy
    rcases mem_rbL.1 hy with e | e | e | e | e
    · exact h.new y (mem_rbL.2 (.inl e))
    · exact h.new y (mem_rbL.2 (.inr (.inl e)))
    · exact h.new y (mem_rbL.2 (.inr (.inr (.inl e))))
    · exact h.new y (mem_rbL.2 (.inr (.inr (.inr (.inl e)))))
    · have e : v'.ownBlock = some y := e
      rcases fr with fr | fr
      · rw [fr] at e; exact h.new y (mem_rbL.2 (.inr (.inr (.inr (.inr e)))))
      · rw [fr] at e; injection e with e; have := h.old.size; omega
  · intro ad ea
    have hal := h.ralt ad ea
    obtain ⟨⟨C9, hC9⟩, hof⟩ := h.rof ad ea
    refine ⟨⟨C9, hC9.kp k3 (h.rofS hsub ad ea)⟩, fun hy => ?_⟩
    rcases mem_rbL.1 hy with e | e | e | e | e
    · exact hof (mem_rbL.2 (.inl e))
    · exact hof (mem_rbL.2 (.inr (.inl e)))
    · exact hof (mem_rbL.2 (.inr (.inr (.inl e))))
    · exact hof (mem_rbL.2 (.inr (.inr (.inr (.inl e)))))
    · have e : v'.ownBlock = some ad.block := e
      rcases fr with fr | fr
      · rw [fr] at e; exact hof (mem_rbL.2 (.inr (.inr (.inr (.inr e)))))
      · rw [fr] at e; injection e with e; omega
  · intro y hy
    rcases mem_rbL.1 hy with e | e | e | e | e
    · exact .inl (mem_rbL.2 (.inl e))
    · exact .inl (mem_rbL.2 (.inr (.inl e)))
    · exact .inl (mem_rbL.2 (.inr (.inr (.inl e))))
    · exact .inl (mem_rbL.2 (.inr (.inr (.inr (.inl e)))))
    · have e : v'.ownBlock = some y := e
      rcases fr with fr | fr
      · rw [fr] at e; exact .inl (mem_rbL.2 (.inr (.inr (.inr (.inr e)))))
      · rw [fr] at e; injection e with e; right; omega
end
section
variable {W w w1 w' : World} {g : Nat} {d : Hd} {Q : Rbp} {s s1 : Bs} {nx nx1 : Bool}
theorem RbR.mk0 {v : Value} (h : RBU W w' g d Q s nx) (k : Kp (rbL g Q) w w') : RbR v W g d Q s nx w (.returned v) w' := ⟨Q.tr, rfl, h, k, fun y hy => .inl hy⟩
/-- Calls one behind the other. -/
theorem RbR.after {v t : Value} {e : Ending} (k1 : Kp (rbL g Q) w w1) (f1 : ∀ y ∈ rbL g { Q with tr := t }, y ∈ rbL g Q ∨ w.heap.size ≤ y) (h : RbR v W g d { Q with tr := t } s nx w1 e w') : RbR v W g d Q s nx w e w' := by
  obtain ⟨t', rfl, hb, k, fr⟩ := h
  refine ⟨t', rfl, hb, k1.trans k f1, fun y hy => ?_⟩
  rcases fr y hy with h1 | h1
  · exact f1 y h1
  · exact .inr (Nat.le_trans k1.size h1)
theorem RBU.cells (h : RBU W w g d Q s nx) : w.cell? ⟨g, 0, none⟩ = some (.slice Q.A s.rn Q.ca) ∧ w.cell? ⟨g, 1, none⟩ = some (.slice (some ⟨Q.m, 0, none⟩) 8192 Q.mc) ∧ w.cell? ⟨g, 2, none⟩ = some (.pointer (some ⟨Q.p, 0, none⟩)) ∧ w.cell? ⟨g, 3, none⟩ = some (.pointer (some ⟨Q.c, 0, none⟩)) ∧ w.cell? ⟨g, 4, none⟩ = some (.int .i64 s.left) ∧ w.cell? ⟨g, 5, none⟩ = some (.bool s.over) ∧ w.cell? ⟨g, 6, none⟩ = some Q.tr :=
  ⟨h.blk.cell 0, h.blk.cell 1, h.blk.cell 2, h.blk.cell 3, h.blk.cell 4, h.blk.cell 5, h.blk.cell 6⟩
theorem RBU.rw (h : RBU W w g d Q s nx) (C : HC W d Q.Z) : Rws w d Q.Z := C.rw.keep h.old
theorem RBU.eoff (h : RBU W w g d Q s nx) (C : HC W d Q.Z) : EOff Q.Z d.n Q.J := fun ad e hn => by
  obtain ⟨ad2, e2, hl, _⟩ := C.rw.e 0 hn
  rw [e] at e2
  cases e2
  have := h.new Q.J.l (mem_rbL.2 (.inr (.inr (.inr (.inl (by simp [Rr.all]))))))
  simp; omega
/-- The page goes on. -/
theorem rbto_any (h : RBU W w g d Q s nx) (C : HC W d Q.Z) (hok : s.x.ok d) (hG : Good d.n d.es) (t : Int) (ht : t ≤ 9223372036854775807) :
    Calls Tryz.prog 70 #[.pointer (some ⟨Q.p, 0, none⟩), .int .i64 t] w (RbR (.tuple #[]) W g d Q { s with x := s.x.to d t } nx w) := by
  have hlo := h.lo (L := Q.J.all Q.p) (fun y hy => mem_rbL.2 (.inr (.inr (.inr (.inl hy)))))
  refine (rhto_any h.pg hok hG (h.rw C).e (fun w' k => (C.rw.keep (k.onto h.old h.old.size hlo)).e) (h.eoff C) t ht).mono ?_
  rintro e w1 ⟨rfl, hp, k⟩
  exact RbR.mk0 (h.page k hp) (k.mono (fun y hy => mem_rbL.2 (.inr (.inr (.inr (.inl hy))))))
end
end Go.Proofs.YtngfmofjonleeaaGreat
namespace Go.Proofs.YtngfmofjonleeaaGreat
open Go.RowKit
set_option linter.unusedVariables false
set_option linter.unusedSimpArgs false
set_option maxRecDepth 100000
set_option maxHeartbeats 2000000 in
theorem rimg_any {w : World} (A : Option Addr) (n c : Nat) (z : Nat → Int) (a : Int) (hn : n ≤ maxLen) (R : IRow w .u8 A n z) (a0 : 0 ≤ a) (a1 : a ≤ 4294967295) :
    Calls Tryz.prog 77 #[.slice A n c, .int .u32 a] w fun e w' => e = .returned (.int .u8 (readI n z a)) ∧ Below w.heap.size w w' := by
  unfold maxLen at hn
  have y0 : 0 ≤ a % 2097152 := by omega
  have y1 : a % 2097152 < 2097152 := by omega
  obtain ⟨x, hx⟩ : ∃ x, whereI a = x := ⟨_, rfl⟩
  have HX := Lib.hid hx
  have hr : readI n z a = if x = 0 ∧ a % 2097152 < n then z (a % 2097152).toNat else 255 := by unfold readI; rw [hx]
  rw [hr]
  clear hr hx
  obtain ⟨k, hk⟩ := Int.eq_ofNat_of_zero_le y0
  rw [hk] at y1 ⊢
  clear y0
  have d0 : (0 : Int) ≤ (k : Int) := by omega
  rw [show ((k : Int)).toNat = k from rfl]
  by_cases h : x = 0
  · subst h
    by_cases h2 : (k : Int) < n
    · rw [if_pos ⟨rfl, h2⟩]
      obtain ⟨ad, rfl, hl, hc, hw⟩ := R k (by omega)
      have HC := Lib.hid hc
      have d1 : decide ((n : Int) ≤ (k : Int)) = false := decide_eq_false (by omega)
      clear hc hw R
      go_enter Tryz.func77, Tryz.ntmps77
      go_wp2_with fail
      refine (rwhere_v a0 a1 HX.out).mono ?_
      rintro e w2 ⟨rfl, hb⟩
      have hc2 := (hb.cell (p := ad.add k) (by rw [block_of_add]; exact hl)).trans HC.out
      clear y1
      go_wp2_with fail
      go_ret
      exact ⟨rfl, hb⟩
    · rw [if_neg (fun h => h2 h.2)]
      have d2 : n ≤ k := by omega
      clear h2 R
      go_enter Tryz.func77, Tryz.ntmps77
      go_wp2_with fail
      refine (rwhere_v a0 a1 HX.out).mono ?_
      rintro e w2 ⟨rfl, hb⟩
      go_wp2_with fail
      go_ret
      exact ⟨rfl, hb⟩
  · rw [if_neg (fun h' => h h'.1)]
    have n1 : (x == 0) = false := by simpa using h
    clear R
    go_enter Tryz.func77, Tryz.ntmps77
    go_wp2_with fail
    refine (rwhere_v a0 a1 HX.out).mono ?_
    rintro e w2 ⟨rfl, hb⟩
    go_wp2_with fail
    go_ret
    exact ⟨rfl, hb⟩
section
variable {W w w1 w' : World} {g : Nat} {d : Hd} {Q : Rbp} {s s1 : Bs} {nx nx1 : Bool}
set_option maxHeartbeats 4000000 in
theorem rbbegin_any (h : RBU W w g d Q s nx) (C : HC W d Q.Z) (hok : s.x.ok d) (hG : Good d.n d.es) (a : Int) (a0 : 0 ≤ a) (a1 : a ≤ 4294967295) (h0 : 0 < s.left) (hl : s.left ≤ 1099511627776) (o1 : 0 ≤ s.now) (o2 : 0 ≤ s.cyc) (hn : s.now ≤ 1000000000000) (hc : s.cyc ≤ 1000000000000) :
    Calls Tryz.prog 37 #[.pointer (some ⟨g, 0, none⟩), .int .u32 a] w (RbR (.int .i64 s.now) W g d Q (s.beg d a) nx w) := by
  obtain ⟨c0, c1, c2, c3, c4, c5, c6⟩ := h.cells
  have f4 := h.blk.frozen 4
  obtain ⟨l, hl'⟩ : ∃ l, s.left = l := ⟨_, rfl⟩
  rw [hl'] at c4 h0 hl
  have H := Lib.hid h
  have HC := Lib.hid C
  have HOK := Lib.hid hok
  have HG := Lib.hid hG
  clear h C hok hG c0 c1 c2 c5 c6
  go_enter Tryz.func37, Tryz.ntmps37
  go_upto_region 2 with fail
  have k1 : Kp [g] w (w.setCell ⟨g, 4, none⟩ (.int .i64 (l - 1))) := (Kp.refl _ _).setCell (p := ⟨g, 4, none⟩) (.inl (by simp)) _
  have h1 : RBU W (w.setCell ⟨g, 4, none⟩ (.int .i64 (l - 1))) g d Q { s with left := s.left - 1 } nx := H.out.own (s' := { s with left := s.left - 1 }) k1 (by rw [hl']; exact H.out.blk.set_ 4 _) rfl
  generalize World.setCell w _ _ = w1 at *
  have H1 := Lib.hid h1
  have K1 := Lib.hid k1
  obtain ⟨c0, c1, c2, c3, c4, c5, c6⟩ := h1.cells
  clear h1 k1 c0 c1 c2 c4 c5 c6 f4
  refine rg_begin (S := fun w' => w'.cell? ⟨g, 3, none⟩ = some (.pointer (some ⟨Q.c, 0, none⟩))) 8 #[false, false, false, false, false, false, false, false] (by kernel_rfl) (by kernel_rfl) (by kernel_rfl) ?_ (fun hHeld => ?_)
  · exact c3
  refine rg_take (i := 0) (d := some 13) (l := #[true, false, false, false, false, false, false, false]) (fuel := 7) (v := ?_) rfl (by kernel_rfl) (by kernel_rfl) (by kernel_rfl) (by kernel_rfl) (by kernel_rfl) (fun _ _ _ h => h) (by kernel_rfl) ?_ (by assumption) ?_
  rotate_left 1
  · (intro wS hSw; (try dsimp only at hSw); go_simp; try with_reducible rfl)
  try simp only [Act.put, List.setIfInBounds_toArray, List.set_cons_zero, List.set_cons_succ]
  refine rg_take (i := 1) (d := some 14) (l := #[true, true, false, false, false, false, false, false]) (fuel := 6) (v := ?_) rfl (by kernel_rfl) (by kernel_rfl) (by kernel_rfl) (by kernel_rfl) (by kernel_rfl) (fun _ _ _ h => h) (by kernel_rfl) ?_ (by assumption) ?_
  rotate_left 1
  · (intro wS hSw; (try dsimp only at hSw); go_simp; try with_reducible rfl)
  try simp only [Act.put, List.setIfInBounds_toArray, List.set_cons_zero, List.set_cons_succ]
  refine rg_take (i := 2) (d := some 15) (l := #[true, true, true, false, false, false, false, false]) (fuel := 5) (v := ?_) rfl (by kernel_rfl) (by kernel_rfl) (by kernel_rfl) (by kernel_rfl) (by kernel_rfl) (fun _ _ _ h => h) (by kernel_rfl) ?_ (by assumption) ?_
  rotate_left 1
  · (intro wS hSw; (try dsimp only at hSw); go_simp; try with_reducible rfl)
  try simp only [Act.put, List.setIfInBounds_toArray, List.set_cons_zero, List.set_cons_succ]
  refine rg_take (i := 3) (d := some 16) (l := #[true, true, true, true, false, false, false, false]) (fuel := 4) (v := ?_) rfl (by kernel_rfl) (by kernel_rfl) (by kernel_rfl) (by kernel_rfl) (by kernel_rfl) (fun _ _ _ h => h) (by kernel_rfl) ?_ (by assumption) ?_
  rotate_left 1
  · (intro wS hSw; (try dsimp only at hSw); go_simp; try with_reducible rfl)
  try simp only [Act.put, List.setIfInBounds_toArray, List.set_cons_zero, List.set_cons_succ]
  refine rg_take (i := 4) (d := some 17) (l := #[true, true, true, true, true, false, false, false]) (fuel := 3) (v := ?_) rfl (by kernel_rfl) (by kernel_rfl) (by kernel_rfl) (by kernel_rfl) (by kernel_rfl) (fun _ _ _ h => h) (by kernel_rfl) ?_ (by assumption) ?_
  rotate_left 1
  · (intro wS hSw; (try dsimp only at hSw); go_simp; try with_reducible rfl)
  try simp only [Act.put, List.setIfInBounds_toArray, List.set_cons_zero, List.set_cons_succ]
  refine rg_next (i := 5) (l := #[true, true, true, true, true, true, false, false]) (fuel := 2) (by kernel_rfl) rfl (by kernel_rfl) (by kernel_rfl) (fun K hK => ?_)
  go_simp
  (go_at_call 69)
  refine (rextra_any a _ a0 a1).mono ?_
  rintro e w2 ⟨rfl, b2⟩
  replace b2 : Below w1.heap.size w1 w2 := (Below.refl _ _).drew.trans (b2.mono (Nat.le_refl _))
  have H2 := Lib.hid (H1.out.keep b2)
  have K2 := Lib.hid (K1.out.trans (Kp.of_below (L := ([] : List Nat)) b2) (by simp))
  have c3' := H2.out.cells.2.2.2.1
  clear b2
  first | (refine hK.out _ _ ?_ (fun hHeld => ?_)) | (go_wp2_with fail; refine hK.out _ _ ?_ (fun hHeld => ?_))
  · (try dsimp only); exact c3'
  clear hK K
  try simp only [Act.put, List.setIfInBounds_toArray, List.set_cons_zero, List.set_cons_succ]
  refine rg_next (i := 6) (l := #[true, true, true, true, true, true, true, false]) (fuel := 1) (by kernel_rfl) rfl (by kernel_rfl) (by kernel_rfl) (fun K hK => ?_)
  go_simp
  (go_at_call 68)
  refine (rcycle_any (extraB a) H2.out.ck o1 (by show s.now ≤ _; omega) o2 (by show s.cyc ≤ _; omega)).mono ?_
  rintro e w3 ⟨rfl, hb3, gb3⟩
  have k3 := Kp.of_gb gb3
  have H3 := Lib.hid (H2.out.clk (s' := { s with left := s.left - 1, now := s.now + lenI s.fast (extraB a), cyc := s.cyc + (1 + oneI (extraB a)) }) k3 hb3 rfl H.out.nx)
  have K3 := Lib.hid ((K2.out.mono (M := rbL g Q) (by simp [rbL])).trans (k3.mono (M := rbL g Q) (by simp [rbL])) (fun y hy => .inl hy))
  have c3'' := H3.out.cells.2.2.2.1
  clear hb3 gb3 k3
  first | (refine hK.out _ _ ?_ (fun hHeld => ?_)) | (go_wp2_with fail; refine hK.out _ _ ?_ (fun hHeld => ?_))
  · (try dsimp only); exact c3''
  clear hK K
  try simp only [Act.put, List.setIfInBounds_toArray, List.set_cons_zero, List.set_cons_succ]
  refine rg_take (i := 7) (d := some 5) (l := #[true, true, true, true, true, true, true, true]) (fuel := 0) (v := ?_) rfl (by kernel_rfl) (by kernel_rfl) (by kernel_rfl) (by kernel_rfl) (by kernel_rfl) (fun _ _ _ h => h) (by kernel_rfl) ?_ (by assumption) ?_
  rotate_left 1
  · (intro wS hSw; (try dsimp only at hSw); go_simp; try with_reducible rfl)
  try simp only [Act.put, List.setIfInBounds_toArray, List.set_cons_zero, List.set_cons_succ]
  refine wpAnyH_done (by kernel_rfl) ?_ _
  clear hHeld c3 c3' c3''
  have c2 := H3.out.cells.2.2.1
  clear H1 H2 K1 K2
  go_wp2_with fail
  refine (rbto_any H3.out HC.out HOK.out HG.out s.now (by omega)).mono ?_
  rintro e w4 ⟨t, rfl, h4, k4, f4⟩
  have H4 : Hid (RbR (.int .i64 s.now) W g d Q (s.beg d a) nx w (.returned (.int .i64 s.now)) w4) := Lib.hid ⟨t, rfl, h4, K3.out.trans k4 (fun y hy => .inl hy), fun y hy => (f4 y hy).imp id (fun e => Nat.le_trans K3.out.size e)⟩
  clear h4 k4 f4 c2
  go_wp2_with fail
  go_ret
  exact H4.out
set_option maxHeartbeats 4000000 in
theorem rbpeek_any (h : RBU W w g d Q s nx) (a : Int) (a0 : 0 ≤ a) (a1 : a ≤ 4294967295) :
    Calls Tryz.prog 42 #[.pointer (some ⟨g, 0, none⟩), .int .u32 a] w fun e w' => e = .returned (.int .u8 (s.pk a)) ∧ Below w.heap.size w w' := by
  have H := Lib.hid h
  obtain ⟨k, hk⟩ : ∃ k, whereI a = k := ⟨_, rfl⟩
  have hpk : s.pk a = if k = 0 then readI s.rn s.rz a else if k = 1 then s.f (a % 8192).toNat else 255 := by unfold Bs.pk; rw [hk]
  have HPK := Lib.hid hpk
  have HKK := Lib.hid hk
  clear h hpk hk
  by_cases k1 : k = 1
  · subst k1
    obtain ⟨j, hj⟩ := Int.eq_ofNat_of_zero_le (show 0 ≤ a % 8192 by omega)
    have hj2 : j < 8192 := by omega
    have HJ := Lib.hid hj
    have e1 : s.pk a = s.f j := by rw [HPK.out, hj]; rfl
    rw [e1]
    clear e1 hj
    go_enter Tryz.func42, Tryz.ntmps42
    go_wp2_with fail
    refine (rwhere_v a0 a1 HKK.out).mono ?_
    rintro e w1 ⟨rfl, b1⟩
    have H1 := Lib.hid (H.out.keep b1)
    have B1 := Lib.hid b1
    obtain ⟨c0, c1, c2, c3, c4, c5, c6⟩ := H1.out.cells
    obtain ⟨C, hC, hf⟩ := H1.out.ram
    have cj : w1.cell? ⟨Q.m, j, none⟩ = some (.int .u8 (s.f j)) := by rw [hC.cell]; simpa using hf j hj2
    have j0 : (0 : Int) ≤ j := by omega
    have j1 : (j : Int) < 8192 := by omega
    clear b1 c0 c2 c3 c4 c5 c6 hC hf
    have hj := HJ.out
    go_wp2_with fail
    go_ret
    exact ⟨rfl, B1.out⟩
  · have n1 : (k == 1) = false := by simpa using k1
    have e1 : s.pk a = readI s.rn s.rz a := by
      rw [HPK.out, if_neg k1]
      by_cases k0 : k = 0
      · rw [if_pos k0]
      · rw [if_neg k0]; unfold readI; rw [if_neg (fun h => k0 (HKK.out ▸ h.1))]
    rw [e1]
    clear e1
    go_enter Tryz.func42, Tryz.ntmps42
    go_wp2_with fail
    refine (rwhere_v a0 a1 HKK.out).mono ?_
    rintro e w1 ⟨rfl, b1⟩
    have H1 := Lib.hid (H.out.keep b1)
    have B1 := Lib.hid b1
    have c0 := H1.out.cells.1
    have hcap := H1.out.cap
    have hrn : s.rn ≤ maxLen := by omega
    have R := Lib.hid H1.out.rom
    clear b1 hcap
    go_wp2_with fail
    refine (rimg_any Q.A s.rn Q.ca s.rz a hrn R.out a0 a1).mono ?_
    rintro e w2 ⟨rfl, b2⟩
    have B2 := Lib.hid (B1.out.trans (b2.mono B1.out.size))
    clear b2
    go_wp2_with fail
    go_ret
    exact ⟨rfl, B2.out⟩
end
end Go.Proofs.YtngfmofjonleeaaGreat
namespace Go.Proofs.YtngfmofjonleeaaGreat
open Go.RowKit
set_option linter.unusedVariables false
set_option linter.unusedSimpArgs false
set_option maxRecDepth 100000
section
variable {W w w1 w' : World} {g : Nat} {d : Hd} {Q : Rbp} {s : Bs} {nx : Bool} {a : Int}
theorem bank_mod (a : Int) : bankI (a % 2097152) = bankI a := by unfold bankI; omega
theorem where_mod (a : Int) : whereI (a % 2097152) = whereI a := by unfold whereI partAt; rw [show a % 2097152 % 2097152 = a % 2097152 by omega]
theorem extra_mod (a : Int) : extraB (a % 2097152) = extraB a := by unfold extraB; rw [where_mod]
theorem Bs.beg_mod (s : Bs) (d : Hd) (a : Int) : s.beg d (a % 2097152) = s.beg d a := by unfold Bs.beg; rw [extra_mod]
theorem Bs.pk_mod (s : Bs) (a : Int) : s.pk (a % 2097152) = s.pk a := by
  unfold Bs.pk readI
  rw [where_mod, show a % 2097152 % 2097152 = a % 2097152 by omega, show a % 2097152 % 8192 = a % 8192 by omega]
theorem rbank_v {k : Int} {w : World} (a0 : 0 ≤ a) (a1 : a ≤ 4294967295) (e : bankI a = k) : Calls Tryz.prog 39 #[.int .u32 a] w fun e w' => e = .returned (.int .i64 k) ∧ w = w' := e ▸ rbank_any a _ a0 a1
theorem rhread_v {r : Nat} {J : Rr} {Z : Rz} {x y : Hp} {v : Int} (h : RHp w r d J Z x) (hok : x.ok d) (hR : Rws w d Z) (hn : d.np ≤ 140737488355328 ∧ d.nv ≤ 140737488355328 ∧ d.nc ≤ 140737488355328) (hl : x.lim 1000000) (hpb : 0 ≤ peekI (d.np - x.tp) (fun i => d.zp (x.tp + i)) 0 ∧ peekI (d.np - x.tp) (fun i => d.zp (x.tp + i)) 0 ≤ 255) (hG : Good d.n d.es) (off : Int) (o0 : 0 ≤ off) (o1 : off ≤ 65535) (e : x.rv d (whereI (plA off)) (regI (plA off)) = v) (e2 : x.rd d (whereI (plA off)) (regI (plA off)) = y) :
    Calls Tryz.prog 43 #[.pointer (some ⟨r, 0, none⟩), .int .u16 off] w (RhR (.int .u8 v) r d J Z y (J.all r) w) := e ▸ e2 ▸ rhread_any h hok hR hn hl hpb hG off o0 o1
/-- None is left. -/
theorem RBU.emptied (h : RBU W w g d Q s nx) (v : Value) : RbR v W g d Q { s with over := true } nx w (.returned v) (w.setCell ⟨g, 5, none⟩ (.bool true)) := by
  have k : Kp [g] w (w.setCell ⟨g, 5, none⟩ (.bool true)) := (Kp.refl _ _).setCell (p := ⟨g, 5, none⟩) (.inl (by simp)) _
  exact RbR.mk0 (h.own (s' := { s with over := true }) k (h.blk.set_ 5 _) rfl) (k.mono (by simp [rbL]))
theorem rbread_none (h : RBU W w g d Q s nx) (kd : Int) (h0 : s.left = 0) : Calls Tryz.prog 12 #[.pointer (some ⟨g, 0, none⟩), .int .u32 a, .int .u8 kd] w (RbR (.int .u8 255) W g d Q { s with over := true } nx w) := by
  obtain ⟨c0, c1, c2, c3, c4, c5, c6⟩ := h.cells
  have f5 := h.blk.frozen 5
  rw [h0] at c4
  have H := Lib.hid h
  clear h c0 c1 c2 c3 c6
  go_enter Tryz.func12, Tryz.ntmps12
  go_wp2_with fail
  go_ret
  exact H.out.emptied _
theorem rbwrite_none (h : RBU W w g d Q s nx) (v kd : Int) (h0 : s.left = 0) : Calls Tryz.prog 10 #[.pointer (some ⟨g, 0, none⟩), .int .u32 a, .int .u8 v, .int .u8 kd] w (RbR (.tuple #[]) W g d Q { s with over := true } nx w) := by
  obtain ⟨c0, c1, c2, c3, c4, c5, c6⟩ := h.cells
  have f5 := h.blk.frozen 5
  rw [h0] at c4
  have H := Lib.hid h
  clear h c0 c1 c2 c3 c6
  go_enter Tryz.func10, Tryz.ntmps10
  go_wp2_with fail
  first | go_end0 | refine bodyPost_ret (results_none rfl _ _ _) rfl ?_
  exact H.out.emptied _
end
section
variable {W w : World} {g : Nat} {d : Hd} {Q : Rbp} {s : Bs} {nx : Bool}
set_option maxHeartbeats 8000000 in
theorem rbread_some {a : Int} (kd : Int) (h : RBU W w g d Q s nx) (C : HC W d Q.Z) (hok : s.x.ok d) (hok2 : (s.beg d a).x.ok d) (hG : Good d.n d.es) (hnn : d.np ≤ 140737488355328 ∧ d.nv ≤ 140737488355328 ∧ d.nc ≤ 140737488355328) (a0 : 0 ≤ a) (a1 : a ≤ 4294967295) (h0 : 0 < s.left) (hle : s.left ≤ 1099511627776) (o1 : 0 ≤ s.now) (o2 : 0 ≤ s.cyc) (hn : s.now ≤ 1000000000000) (hc : s.cyc ≤ 1000000000000) (hl : s.x.lim 1000000) (ht : s.tl.length ≤ 1000000) :
    Calls Tryz.prog 12 #[.pointer (some ⟨g, 0, none⟩), .int .u32 a, .int .u8 kd] w (RbR (.int .u8 (s.rdV d a)) W g d Q (s.rdS d a kd) nx w) := by
  have b0 : 0 ≤ a % 2097152 := by omega
  have b1 : a % 2097152 ≤ 4294967295 := by omega
  have HL : Hid ((s.beg d a).x.lim 1000000) := Lib.hid (Hp.lim_to hl)
  have BG := Lib.hid (rbbegin_any h C hok hG (a % 2097152) b0 b1 h0 hle o1 o2 hn hc)
  have c4 := h.cells.2.2.2.2.1
  obtain ⟨l, hl'⟩ : ∃ l, s.left = l := ⟨_, rfl⟩
  rw [hl'] at c4 h0
  have hl0 : (l == 0) = false := by simpa using (show ¬ l = 0 by omega)
  have HC := Lib.hid C
  have HOK := Lib.hid hok2
  have HG := Lib.hid hG
  have HNN := Lib.hid hnn
  have HT : Hid (s.tl.length ≤ 1000000) := Lib.hid ht
  clear h C hok hok2 hG hnn hle o1 o2 hn hc hl ht hl' h0
  obtain ⟨v, hv⟩ : ∃ v, s.rdV d a = v := ⟨_, rfl⟩
  have HV : Hid ((s.beg d a).an d a = v) := Lib.hid hv
  have hs : s.rdS d a kd = { (s.beg d a).anS d a with tl := s.tl ++ [⟨s.now, a % 2097152, kd, false, v⟩] } := by unfold Bs.rdS; rw [hv]
  rw [hv, hs]
  clear hv hs
  by_cases e : bankI a = 255
  · have HE : Hid (bankI (a % 2097152) = 255) := Lib.hid (by rw [bank_mod]; exact e)
    have ea : (s.beg d a).an d a = (s.beg d a).x.rv d (whereI (plA (offI a))) (regI (plA (offI a))) := by unfold Bs.an; rw [if_pos e]
    have eb : (s.beg d a).anS d a = { s.beg d a with x := (s.beg d a).x.rd d (whereI (plA (offI a))) (regI (plA (offI a))) } := by unfold Bs.anS; rw [if_pos e]
    rw [eb]
    obtain ⟨o, ho⟩ : ∃ o, offI a = o := ⟨_, rfl⟩
    have ho2 : a % 2097152 % 8192 = o := by rw [← ho]; unfold offI; omega
    have o0 : 0 ≤ o := by omega
    have o9 : o ≤ 65535 := by omega
    rw [ho]
    have HV2 : Hid ((s.beg d a).x.rv d (whereI (plA o)) (regI (plA o)) = v) := Lib.hid (by rw [← HV.out, ea, ho])
    obtain ⟨y, hy⟩ : ∃ y, (s.beg d a).x.rd d (whereI (plA o)) (regI (plA o)) = y := ⟨_, rfl⟩
    rw [hy]
    have HY := Lib.hid hy
    have HO := Lib.hid ho2
    clear ea eb e ho ho2 hy
    go_enter Tryz.func12, Tryz.ntmps12
    go_wp2_with fail
    refine BG.out.mono ?_
    rw [Bs.beg_mod]
    rintro e w1 ⟨t1, rfl, h1, k1, f1⟩
    have H1 := Lib.hid h1
    have K1 := Lib.hid k1
    have F9 := Lib.hid f1
    clear h1 k1 f1 c4 BG
    go_wp2_with fail
    refine (rbpeek_any H1.out (a % 2097152) b0 b1).mono ?_
    rintro e w2 ⟨rfl, b2⟩
    have H2 := Lib.hid (H1.out.keep b2)
    have K2 := Lib.hid (K1.out.trans (Kp.of_below (L := ([] : List Nat)) b2) (by simp))
    have c2 := H2.out.cells.2.2.1
    clear b2 H1 K1
    go_wp2_with fail
    refine (rbank_v b0 b1 HE.out).mono ?_
    rintro e w3 ⟨rfl, rfl⟩
    have ho := HO.out
    go_wp2_with fail
    clear ho
    refine (rhread_v H2.out.pg HOK.out (H2.out.rw HC.out) HNN.out HL.out (HC.out.pb _) HG.out o o0 o9 HV2.out HY.out).mono ?_
    rintro e w9 ⟨rfl, hp, k9⟩
    have H9 := Lib.hid (H2.out.page k9 hp)
    have K9 := Lib.hid (K2.out.trans k9 (fun y hy => .inl (mem_rbL.2 (.inr (.inr (.inr (.inl hy)))))))
    clear hp k9 H2 K2 c2
    have c6 : w9.cell? ⟨g, 6, none⟩ = some t1 := H9.out.cells.2.2.2.2.2.2
    have tr9 : w9.ownsRow 0 129 5 t1 s.tl.length (accL s.tl) := H9.out.tr
    obtain ⟨v', w5, hrun, own, gb, fr⟩ := more_acc (ty := 52) tr9 ⟨s.now, a % 2097152, kd, false, v⟩ HT.out
    obtain ⟨gt, ct, rfl⟩ := ownsRow_succ own
    obtain ⟨bt, hcz⟩ := H9.out.told ⟨s.now, a % 2097152, kd, false, v⟩ own gb fr
    have c6b : w5.cell? ⟨g, 6, none⟩ = some t1 := hcz.1
    have z6 := hcz.2
    have BT := Lib.hid (RbR.after K9.out F9.out (bt (.int .u8 v)))
    clear own gb fr bt tr9 hcz
    go_wp2_with (at_builtin; refine wpList_append_run rfl (.tmp 40) (.tmp 46) 52 rfl rfl rfl hrun ?_)
    go_ret
    exact BT.out
  · obtain ⟨bb, hbb⟩ : ∃ bb, bankI a = bb := ⟨_, rfl⟩
    have HE : Hid (bankI (a % 2097152) = bb) := Lib.hid (by rw [bank_mod]; exact hbb)
    have ea : (s.beg d a).an d a = (s.beg d a).pk a := by unfold Bs.an; rw [if_neg e]
    have eb : (s.beg d a).anS d a = s.beg d a := by unfold Bs.anS; rw [if_neg e]
    rw [eb]
    have HV2 : Hid ((s.beg d a).pk (a % 2097152) = v) := Lib.hid (by rw [← HV.out, ea, Bs.pk_mod])
    rw [hbb] at e
    have n1 : (bb == 255) = false := by simpa using e
    clear ea eb e hbb
    go_enter Tryz.func12, Tryz.ntmps12
    go_wp2_with fail
    refine BG.out.mono ?_
    rw [Bs.beg_mod]
    rintro e w1 ⟨t1, rfl, h1, k1, f1⟩
    have H1 := Lib.hid h1
    have K1 := Lib.hid k1
    have F9 := Lib.hid f1
    clear h1 k1 f1 c4 BG
    go_wp2_with fail
    refine (rbpeek_any H1.out (a % 2097152) b0 b1).mono ?_
    rw [HV2.out]
    rintro e w9 ⟨rfl, b2⟩
    have H9 := Lib.hid (H1.out.keep b2)
    have K9 := Lib.hid (K1.out.trans (Kp.of_below (L := ([] : List Nat)) b2) (by simp))
    clear b2 H1 K1
    go_wp2_with fail
    refine (rbank_v b0 b1 HE.out).mono ?_
    rintro e w3 ⟨rfl, rfl⟩
    have c6 : w9.cell? ⟨g, 6, none⟩ = some t1 := H9.out.cells.2.2.2.2.2.2
    have tr9 : w9.ownsRow 0 129 5 t1 s.tl.length (accL s.tl) := H9.out.tr
    obtain ⟨v', w5, hrun, own, gb, fr⟩ := more_acc (ty := 52) tr9 ⟨s.now, a % 2097152, kd, false, v⟩ HT.out
    obtain ⟨gt, ct, rfl⟩ := ownsRow_succ own
    obtain ⟨bt, hcz⟩ := H9.out.told ⟨s.now, a % 2097152, kd, false, v⟩ own gb fr
    have c6b : w5.cell? ⟨g, 6, none⟩ = some t1 := hcz.1
    have z6 := hcz.2
    have BT := Lib.hid (RbR.after K9.out F9.out (bt (.int .u8 v)))
    clear own gb fr bt tr9 hcz
    go_wp2_with (at_builtin; refine wpList_append_run rfl (.tmp 40) (.tmp 46) 52 rfl rfl rfl hrun ?_)
    go_ret
    exact BT.out
end
end Go.Proofs.YtngfmofjonleeaaGreat
namespace Go.Proofs.YtngfmofjonleeaaGreat
open Go.RowKit
set_option linter.unusedVariables false
set_option linter.unusedSimpArgs false
set_option maxRecDepth 100000
/-- A budget, held. -/
def bud (n : Int) : Int := if 1099511627776 < (if n < 0 then 0 else n) then 1099511627776 else if n < 0 then 0 else n
theorem bud_bd (n : Int) : 0 ≤ bud n ∧ bud n ≤ 1099511627776 := by unfold bud; (repeat' split) <;> omega
def Bs.new (rv : Value) (rn : Nat) (rz : Nat → Int) (x : Hp) (b : Int) : Bs := ⟨0, 0, false, false, false, rv, rn, rz, fun _ => 0, x, bud b, false, []⟩
/-- What New leaves: a bus of its own, on the page that was there. -/
def BnR (p : Nat) (d : Hd) (b : Hb) (x : Hp) (rn : Nat) (rz : Nat → Int) (bu : Int) (w : World) (e : Ending) (w' : World) : Prop :=
  ∃ g m rv, e = .returned (.pointer (some ⟨g, 0, none⟩)) ∧ w.heap.size ≤ g ∧ w.heap.size ≤ m ∧ BU w' g d ⟨m, none, p, b, .slice none 0 0⟩ (Bs.new rv rn rz x bu) ∧ Below w.heap.size w w'
set_option maxHeartbeats 8000000 in
theorem bnew_any {w : World} {p : Nat} {d : Hd} {b : Hb} {x : Hp} (hp : HP w p d b x) {A : Option Addr} {n c : Nat} {z : Nat → Int} (hA : A = none → n = 0 ∧ c = 0) (hm : n ≤ 140737488355328) (R : IRow w .u8 A n z) (bu : Int) :
    Calls Tryz.prog 7 #[.slice A n c, .pointer (some ⟨p, 0, none⟩), .int .i64 bu] w (BnR p d b x n z bu w) := by
  have HPP := Lib.hid hp
  have HR := Lib.hid R
  have HA := Lib.hid hA
  clear hp R hA
  obtain ⟨l, hl⟩ : ∃ l, bud bu = l := ⟨_, rfl⟩
  have HL := Lib.hid hl
  unfold bud at hl
  go_enter Tryz.func7, Tryz.ntmps7
  go_upto_region 1 with fail
  refine rg_begin (S := fun w' => True) 13 #[false, false, false, false, false, false, false, false, false, false, false, false, false] (by kernel_rfl) (by kernel_rfl) (by kernel_rfl) ?_ (fun hHeld => ?_)
  · all_goals trivial
  have HP0 := Lib.hid (HPP.out.kp0 (Kp.refl _ _).drew)
  have HR0 : Hid (IRow w.drew .u8 A n z) := Lib.hid HR.out
  have HB0 : Hid (Below w.heap.size w w.drew) := Lib.hid (Below.refl _ _).drew
  clear HPP HR
  generalize World.drew w = w0 at *
  refine rg_take (i := 3) (d := some 10) (l := #[false, false, false, true, false, false, false, false, false, false, false, false, false]) (fuel := 12) (v := ?_) rfl (by kernel_rfl) (by kernel_rfl) (by kernel_rfl) (by kernel_rfl) (by kernel_rfl) (fun _ _ _ h => h) (by kernel_rfl) ?_ (by assumption) ?_
  rotate_left 1
  · (intro wS hSw; (try dsimp only at hSw); go_simp; try with_reducible rfl)
  try simp only [Act.put, List.setIfInBounds_toArray, List.set_cons_zero, List.set_cons_succ]
  refine rg_take (i := 6) (d := some 13) (l := #[false, false, false, true, false, false, true, false, false, false, false, false, false]) (fuel := 11) (v := ?_) rfl (by kernel_rfl) (by kernel_rfl) (by kernel_rfl) (by kernel_rfl) (by kernel_rfl) (fun _ _ _ h => h) (by kernel_rfl) ?_ (by assumption) ?_
  rotate_left 1
  · (intro wS hSw; (try dsimp only at hSw); go_simp; try with_reducible rfl)
  try simp only [Act.put, List.setIfInBounds_toArray, List.set_cons_zero, List.set_cons_succ]
  refine rg_take (i := 7) (d := some 14) (l := #[false, false, false, true, false, false, true, true, false, false, false, false, false]) (fuel := 10) (v := ?_) rfl (by kernel_rfl) (by kernel_rfl) (by kernel_rfl) (by kernel_rfl) (by kernel_rfl) (fun _ _ _ h => h) (by kernel_rfl) ?_ (by assumption) ?_
  rotate_left 1
  · (intro wS hSw; (try dsimp only at hSw); go_simp; try with_reducible rfl)
  try simp only [Act.put, List.setIfInBounds_toArray, List.set_cons_zero, List.set_cons_succ]
  refine rg_take (i := 8) (d := some 15) (l := #[false, false, false, true, false, false, true, true, true, false, false, false, false]) (fuel := 9) (v := ?_) rfl (by kernel_rfl) (by kernel_rfl) (by kernel_rfl) (by kernel_rfl) (by kernel_rfl) (fun _ _ _ h => h) (by kernel_rfl) ?_ (by assumption) ?_
  rotate_left 1
  · (intro wS hSw; (try dsimp only at hSw); go_simp; try with_reducible rfl)
  try simp only [Act.put, List.setIfInBounds_toArray, List.set_cons_zero, List.set_cons_succ]
  refine rg_take (i := 9) (d := some 16) (l := #[false, false, false, true, false, false, true, true, true, true, false, false, false]) (fuel := 8) (v := ?_) rfl (by kernel_rfl) (by kernel_rfl) (by kernel_rfl) (by kernel_rfl) (by kernel_rfl) (fun _ _ _ h => h) (by kernel_rfl) ?_ (by assumption) ?_
  rotate_left 1
  · (intro wS hSw; (try dsimp only at hSw); go_simp; try with_reducible rfl)
  try simp only [Act.put, List.setIfInBounds_toArray, List.set_cons_zero, List.set_cons_succ]
  try rw [hl]
  clear hl
  obtain ⟨gc, hgc⟩ : ∃ gc, w0.heap.size = gc := ⟨_, rfl⟩
  refine rg_next (i := 0) (l := #[true, false, false, true, false, false, true, true, true, true, false, false, false]) (fuel := 7) (by kernel_rfl) rfl (by kernel_rfl) (by kernel_rfl) (fun K hK => ?_)
  go_simp
  (go_at_call 29)
  refine (cknew_any w0).mono ?_
  rw [hgc]
  rintro e w1 ⟨rfl, hc1, b1⟩
  rw [← hgc] at b1
  have HC1 : Hid (Blk w1 gc 112 #[.int .i64 0, .int .i64 0, .bool false, .bool false, .bool false]) := Lib.hid hc1
  have HP1 := Lib.hid (HP0.out.keep b1)
  have HR1 := Lib.hid (HR0.out.keep b1)
  have HB1 := Lib.hid (HB0.out.trans (b1.mono HB0.out.size))
  clear hc1 b1 hgc
  first | (refine hK.out _ _ ?_ (fun hHeld => ?_)) | (go_wp2_with fail; refine hK.out _ _ ?_ (fun hHeld => ?_))
  · (try dsimp only); all_goals trivial
  clear hK K
  try simp only [Act.put, List.setIfInBounds_toArray, List.set_cons_zero, List.set_cons_succ]
  refine rg_take (i := 1) (d := some 8) (l := #[true, true, false, true, false, false, true, true, true, true, false, false, false]) (fuel := 6) (v := ?_) rfl (by kernel_rfl) (by kernel_rfl) (by kernel_rfl) (by kernel_rfl) (by kernel_rfl) (fun _ _ _ h => h) (by kernel_rfl) ?_ (by assumption) ?_
  rotate_left 1
  · (intro wS hSw; (try dsimp only at hSw); go_simp; try with_reducible rfl)
  try simp only [Act.put, List.setIfInBounds_toArray, List.set_cons_zero, List.set_cons_succ]
  refine rg_more (S' := fun w' => Blk w' gc 112 #[.int .i64 0, .int .i64 0, .bool false, .bool false, .bool false]) (fun w h => trivial) _ _ _ _ ?_
  clear hHeld
  have hHeld : (fun w' : World => Blk w' gc 112 #[.int .i64 0, .int .i64 0, .bool false, .bool false, .bool false]) _ := HC1.out
  refine rg_take (i := 2) (d := some 9) (l := #[true, true, true, true, false, false, true, true, true, true, false, false, false]) (fuel := 5) (v := .agg #[.int .i64 0, .int .i64 0, .bool false, .bool false, .bool false]) rfl (by kernel_rfl) (by kernel_rfl) (by kernel_rfl) (by kernel_rfl) (by kernel_rfl) (fun _ _ _ h => h) (by kernel_rfl) ?_ (by assumption) ?_
  · (intro wS hSw; (try dsimp only at hSw); exact exec_load_row 112 (.tmp 8) rfl gc rfl 112 #[.int .i64 0, .int .i64 0, .bool false, .bool false, .bool false] (0, 0) _ hSw Tryz.underlying112 rfl (by kernel_rfl))
  try simp only [Act.put, List.setIfInBounds_toArray, List.set_cons_zero, List.set_cons_succ]
  refine rg_next (i := 4) (l := #[true, true, true, true, true, false, true, true, true, true, false, false, false]) (fuel := 4) (by kernel_rfl) rfl (by kernel_rfl) (by kernel_rfl) (fun K hK => ?_)
  go_simp
  (go_at_call 30)
  refine (sclone_any A n c z HA.out hm HR1.out).mono ?_
  rintro e w2 ⟨v, rfl, hs2, b2⟩
  obtain ⟨A', cap, rfl, s1, s2, s3, s4, s5⟩ := hs2
  have HS2 : Hid (SliceB w2 w2.heap.size (.slice A' n cap) n z) := Lib.hid ⟨A', cap, rfl, s1, s2, s3, s4, s5⟩
  have HC2 := Lib.hid (HC1.out.below b2 HC1.out.lt)
  have HP2 := Lib.hid (HP1.out.keep b2)
  have HB2 := Lib.hid (HB1.out.trans (b2.mono HB1.out.size))
  clear b2 s1 s2 s3 s4 s5
  first | (refine hK.out _ _ ?_ (fun hHeld => ?_)) | (go_wp2_with fail; refine hK.out _ _ ?_ (fun hHeld => ?_))
  · (try dsimp only); exact HC2.out
  clear hK K
  try simp only [Act.put, List.setIfInBounds_toArray, List.set_cons_zero, List.set_cons_succ]
  obtain ⟨m, hgm⟩ : ∃ m, w2.heap.size = m := ⟨_, rfl⟩
  refine rg_next (i := 5) (l := #[true, true, true, true, true, true, true, true, true, true, false, false, false]) (fuel := 3) (by kernel_rfl) rfl (by kernel_rfl) (by kernel_rfl) (fun K hK => ?_)
  go_simp
  (go_at_call 31)
  refine (rnew_any w2).mono ?_
  rw [hgm]
  rintro e w3 ⟨rfl, hr3, b3⟩
  rw [← hgm] at b3
  have HM3 := Lib.hid hr3
  have HC3 := Lib.hid (HC2.out.below b3 HC2.out.lt)
  have HP3 := Lib.hid (HP2.out.keep b3)
  have HS3 := Lib.hid (HS2.out.keep b3)
  have HS23 := Lib.hid b3.size
  have HB3 := Lib.hid (HB2.out.trans (b3.mono HB2.out.size))
  have hmw : w.heap.size ≤ m := by rw [← hgm]; exact HB2.out.size
  clear hr3 b3 hgm
  first | (refine hK.out _ _ ?_ (fun hHeld => ?_)) | (go_wp2_with fail; refine hK.out _ _ ?_ (fun hHeld => ?_))
  · (try dsimp only); exact HC3.out
  clear hK K
  try simp only [Act.put, List.setIfInBounds_toArray, List.set_cons_zero, List.set_cons_succ]
  refine rg_take (i := 10) (d := some 17) (l := #[true, true, true, true, true, true, true, true, true, true, true, false, false]) (fuel := 2) (v := ?_) rfl (by kernel_rfl) (by kernel_rfl) (by kernel_rfl) (by kernel_rfl) (by kernel_rfl) (fun _ _ _ h => h) (by kernel_rfl) ?_ (by assumption) ?_
  rotate_left 1
  · (intro wS hSw; (try dsimp only at hSw); go_simp; try with_reducible rfl)
  try simp only [Act.put, List.setIfInBounds_toArray, List.set_cons_zero, List.set_cons_succ]
  have HC4 := Lib.hid (HC3.out.alloc (.cells #[.int .i64 0, .int .i64 0, .bool false, .bool false, .bool false, .slice A' n cap, .pointer (some ⟨m, 0, none⟩), .pointer (some ⟨p, 0, none⟩), .int .i64 l, .bool false, .slice none 0 0] 119))
  refine rg_next (i := 11) (l := #[true, true, true, true, true, true, true, true, true, true, true, true, false]) (fuel := 1) (by kernel_rfl) rfl (by kernel_rfl) (by kernel_rfl) (fun K hK => ?_)
  go_simp
  skip
  first | (refine hK.out _ _ ?_ (fun hHeld => ?_)) | (go_wp2_with fail; refine hK.out _ _ ?_ (fun hHeld => ?_))
  · (try dsimp only); exact HC4.out
  clear hK K
  try simp only [Act.put, List.setIfInBounds_toArray, List.set_cons_zero, List.set_cons_succ]
  refine rg_take (i := 12) (d := some 6) (l := #[true, true, true, true, true, true, true, true, true, true, true, true, true]) (fuel := 0) (v := ?_) rfl (by kernel_rfl) (by kernel_rfl) (by kernel_rfl) (by kernel_rfl) (by kernel_rfl) (fun _ _ _ h => h) (by kernel_rfl) ?_ (by assumption) ?_
  rotate_left 1
  · (intro wS hSw; (try dsimp only at hSw); go_simp; try with_reducible rfl)
  try simp only [Act.put, List.setIfInBounds_toArray, List.set_cons_zero, List.set_cons_succ]
  refine wpAnyH_done (by kernel_rfl) ?_ _
  clear hHeld
  have k4 : Kp [] w3 (w3.alloc (.cells #[.int .i64 0, .int .i64 0, .bool false, .bool false, .bool false, .slice A' n cap, .pointer (some ⟨m, 0, none⟩), .pointer (some ⟨p, 0, none⟩), .int .i64 l, .bool false, .slice none 0 0] 119)) := (Kp.refl _ _).alloc _
  have b4 : Below w3.heap.size w3 (w3.alloc (.cells #[.int .i64 0, .int .i64 0, .bool false, .bool false, .bool false, .slice A' n cap, .pointer (some ⟨m, 0, none⟩), .pointer (some ⟨p, 0, none⟩), .int .i64 l, .bool false, .slice none 0 0] 119)) := (Below.refl _ _).alloc (Nat.le_refl _) _
  have hbl := bud_bd bu
  have hs23 : w2.heap.size ≤ w3.heap.size := HS23.out
  have HBU : Hid (BU (w3.alloc (.cells #[.int .i64 0, .int .i64 0, .bool false, .bool false, .bool false, .slice A' n cap, .pointer (some ⟨m, 0, none⟩), .pointer (some ⟨p, 0, none⟩), .int .i64 l, .bool false, .slice none 0 0] 119)) w3.heap.size d ⟨m, none, p, b, .slice none 0 0⟩ (Bs.new (.slice A' n cap) n z x bu)) := Lib.hid ⟨by unfold buC buK Bs.new; dsimp only [buR]; rw [HL.out]; exact Blk.new_ rfl, HM3.out.keep b4, HP3.out.keep b4, (HS3.out.mono hs23).keep b4, World.ownsRow_nil _ _ _ _, ⟨Int.le_refl 0, Int.le_refl 0, hbl.1, hbl.2, fun i _ => ⟨Int.le_refl 0, (by decide : (0 : Int) ≤ 255)⟩⟩⟩
  have HB4 : Hid (Below w.heap.size w (w3.alloc (.cells #[.int .i64 0, .int .i64 0, .bool false, .bool false, .bool false, .slice A' n cap, .pointer (some ⟨m, 0, none⟩), .pointer (some ⟨p, 0, none⟩), .int .i64 l, .bool false, .slice none 0 0] 119))) := Lib.hid (HB3.out.alloc HB3.out.size _)
  have hgw := HB3.out.size
  clear k4 b4 hbl
  go_wp2_with fail
  all_goals
    go_ret
    exact ⟨_, m, _, rfl, hgw, hmw, HBU.out, HB4.out⟩
end Go.Proofs.YtngfmofjonleeaaGreat
