/-
  Texts of these proofs, one behind the other: Mmu4, Mmu5, A5.
-/
import Derived.Test.YtccimkmlbcgekaaGreatKA08
import Derived.Test.YtccimkmlbcgekaaGreatKA05
import Derived.Test.YtccimkmlbcgekaaGreatKA07
namespace Go.Proofs.YtccimkmlbcgekaaGreat
open Go.RowKit Go.Shelf
set_option linter.unusedVariables false
set_option linter.unusedSimpArgs false
set_option maxRecDepth 100000
attribute [local go_sem] Oper.semAt_some
section
variable {w w' : World} {g : Nat} {z : Nat → Int} {l : Int}
/-- What is moved from the first page. -/
def fstP (z : Nat → Int) (l : Int) : List (Fin 8) → Int
  | [] => l
  | x :: _ => z x.val
def getI (z : Nat → Int) (l m : Int) : Int := fstP z l (wthL (fun i => bitB m i) 8)
theorem ownFrom_kp {α : Type} {n : Nat} {L : List Nat} {w0 : World} (hn : w0.heap.size ≤ n) : OwnFrom n (fun (_ : List α) W1 => Kp L w0 W1) := fun s A B row hs hg hr =>
  ⟨hg.os.trans hs.os, hg.tape.trans hs.tape, hg.output.trans hs.output, Nat.le_trans hs.size hg.size, fun i hi hni => (hg.block i (Nat.lt_of_lt_of_le hi hs.size) fun e => by have := (hr i e.symm).1; omega).trans (hs.block i hi hni)⟩
theorem kp_put {a W : World} {L : List Nat} {D : Nat} {o o' : Obj} (h : Kp L a W) (ho : W.heap[D]? = some o) (hc : o.isCells = false) (hD : a.heap.size ≤ D) : Kp L a (W.putObj D o') := by
  have hg := grownBy_putObj' W D o'
  exact ⟨hg.os.trans h.os, hg.tape.trans h.tape, hg.output.trans h.output, Nat.le_trans h.size hg.size, fun i hi hn => (hg.block i (Nat.lt_of_lt_of_le hi h.size) fun e => by cases e; omega).trans (h.block i hi hn)⟩
end
end Go.Proofs.YtccimkmlbcgekaaGreat
namespace Go.Proofs.YtccimkmlbcgekaaGreat
open Go.RowKit Go.Shelf
set_option linter.unusedVariables false
set_option linter.unusedSimpArgs false
set_option maxRecDepth 100000
attribute [local go_sem] Oper.semAt_some
/-- In the block b lie n numbers of 16 bits. -/
def Tab16 (w : World) (b n : Nat) (f : Nat → Int) : Prop := b < w.heap.size ∧ ∀ k, k < n → w.cell? ⟨b, k, none⟩ = some (.int .u16 (f k))
section
variable {w w' : World} {b n : Nat} {f : Nat → Int} {L : List Nat}
theorem Tab16.keep {B : Nat} (h : Tab16 w b n f) (hb : Below B w w') (hB : b < B) : Tab16 w' b n f := ⟨Nat.lt_of_lt_of_le h.1 hb.size, fun k hk => (World.cell?_of_block (hb.block b hB)).trans (h.2 k hk)⟩
theorem Tab16.below (h : Tab16 w b n f) (hb : Below w.heap.size w w') : Tab16 w' b n f := h.keep hb h.1
theorem Tab16.kp (h : Tab16 w b n f) (k : Kp L w w') (hL : b ∉ L) : Tab16 w' b n f := ⟨Nat.lt_of_lt_of_le h.1 k.size, fun j hj => (k.cell h.1 hL).trans (h.2 j hj)⟩
end
/-- The three places. -/
def prt (k : Nat) : Int := match k with | 0 => 0 | 1 => 2 | _ => 3
end Go.Proofs.YtccimkmlbcgekaaGreat
namespace Go.Proofs.YtccimkmlbcgekaaGreat
open Go.RowKit
def numL (l : List UInt8) : Int := l.foldl (fun n c => 16 * n + valI c.toNat) 0
theorem numL_snoc (l : List UInt8) (c : UInt8) : numL (l ++ [c]) = 16 * numL l + valI c.toNat := by simp [numL]
theorem numL_bd (l : List UInt8) : 0 ≤ numL l ∧ numL l < 16 ^ l.length := by
  suffices h : ∀ r : List UInt8, 0 ≤ numL r.reverse ∧ numL r.reverse < 16 ^ r.length by
    have := h l.reverse; simpa using this
  intro r
  induction r with
  | nil => simp [numL]
  | cons c r ih =>
    rw [List.reverse_cons, numL_snoc, List.length_cons, Int.pow_succ]
    have := valI_bd c.toNat
    omega
def allV (l : List UInt8) : Bool := l.all fun c => valB c.toNat
theorem allV_snoc (l : List UInt8) (c : UInt8) : allV (l ++ [c]) = (allV l && valB c.toNat) := by simp [allV]
theorem allV_not (l : List UInt8) (k : Nat) (hk : k < l.length) (h : valB l[k].toNat = false) : allV l = false := by
  unfold allV; rw [List.all_eq_false]; exact ⟨l[k], by simp, by simp [h]⟩
theorem take_snoc (s : ByteArray) (k : Nat) (h : k < s.size) : s.data.toList.take (k + 1) = s.data.toList.take k ++ [s[k]] := by
  rw [List.take_succ_eq_append_getElem (by simpa using h)]; rfl
theorem numL_le7 (s : ByteArray) (k : Nat) (h : k < 8) : 0 ≤ numL (s.data.toList.take k) ∧ numL (s.data.toList.take k) ≤ 268435455 := by
  have := numL_bd (s.data.toList.take k)
  refine ⟨this.1, ?_⟩
  have h2 : (s.data.toList.take k).length ≤ 7 := by have := List.length_take_le k s.data.toList; omega
  have h3 : (16 : Int) ^ (s.data.toList.take k).length ≤ 16 ^ 7 := by
    have := Nat.pow_le_pow_right (n := 16) (by decide) h2
    exact_mod_cast this
  have h4 : (16 : Int) ^ 7 = 268435456 := by decide
  omega
def fhR (s : ByteArray) : Int × Int := if allV s.data.toList then (numL s.data.toList, 0) else (0, 3)
theorem fhR_no (s : ByteArray) (k : Nat) (hk : k < s.size) (h : valB s[k].toNat = false) : fhR s = (0, 3) := by
  unfold fhR; rw [if_neg]; simp [allV_not s.data.toList k (by simpa using hk) h]
end Go.Proofs.YtccimkmlbcgekaaGreat
