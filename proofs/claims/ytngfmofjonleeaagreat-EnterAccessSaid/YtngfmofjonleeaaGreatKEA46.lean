/-
  Texts of these proofs, one behind the other: Flg2, Flg3, Flg4, Mmu6.
-/
import Derived.Test.YtngfmofjonleeaaGreatKEA41
import Derived.Test.YtngfmofjonleeaaGreatKEA44
import Derived.Test.YtngfmofjonleeaaGreatKEA07
import Derived.Test.YtngfmofjonleeaaGreatKEA02
import Derived.Test.YtngfmofjonleeaaGreatKEA45
import Derived.Laws.Strings
import Derived.WideShapes
namespace Go.Proofs.YtngfmofjonleeaaGreat
open Go.RowKit
set_option linter.unusedVariables false
set_option linter.unusedSimpArgs false
set_option maxRecDepth 100000
def ltr : Nat → Int | 0 => 78 | 1 => 86 | 2 => 84 | 3 => 66 | 4 => 68 | 5 => 73 | 6 => 90 | _ => 67
/-- The letters, as they lie in the program's own table. -/
def Tab8 (w : World) (b : Nat) : Prop := b < w.heap.size ∧ ∀ k, k < 8 → w.cell? ⟨b, k, none⟩ = some (.int .u8 (ltr k))
theorem Tab8.below {w w' : World} {b : Nat} (h : Tab8 w b) (hb : Below w.heap.size w w') : Tab8 w' b := ⟨Nat.lt_of_lt_of_le h.1 hb.size, fun k hk => (World.cell?_of_block (hb.block b h.1)).trans (h.2 k hk)⟩
end Go.Proofs.YtngfmofjonleeaaGreat
namespace Go.Proofs.YtngfmofjonleeaaGreat
open Go.RowKit
set_option linter.unusedVariables false
set_option linter.unusedSimpArgs false
set_option maxRecDepth 100000
end Go.Proofs.YtngfmofjonleeaaGreat
namespace Go.Proofs.YtngfmofjonleeaaGreat
open Go.RowKit
set_option linter.unusedVariables false
set_option linter.unusedSimpArgs false
set_option maxRecDepth 100000
section
variable {p : Int} (w : World) (p0 : 0 ≤ p) (p1 : p ≤ 255)
include p0 p1
end
/-- Has a text this letter at its place? -/
def hl (s : ByteArray) (k : Nat) : Bool := if h : k < s.size then ((s[k].toNat : Int) == ltr k) else false
end Go.Proofs.YtngfmofjonleeaaGreat
namespace Go.Proofs.YtngfmofjonleeaaGreat
open Go.RowKit
set_option linter.unusedVariables false
set_option linter.unusedSimpArgs false
set_option maxRecDepth 100000
/-- The answer's banks, and what was moved last, lie in g. -/
def RMu (w : World) (g : Nat) (z : Nat → Int) (l : Int) : Prop := Blk w g 132 (mmC z l)
section
variable {w w' : World} {g : Nat} {z : Nat → Int} {l : Int} {L : List Nat}
theorem RMu.kp (h : RMu w g z l) (k : Kp L w w') (hg : g ∉ L) : RMu w' g z l := Blk.kp h k hg
theorem RMu.below {B : Nat} (h : RMu w g z l) (hb : Below B w w') (hg : g < B) : RMu w' g z l := Blk.below h hb hg
theorem RMu.lt_ (h : RMu w g z l) : g < w.heap.size := Blk.lt h
theorem RMu.one (h : RMu w g z l) (q : Nat) (hq : q < 8) (b : Int) : RMu (w.setCell ⟨g, q, none⟩ (.int .u8 b)) g (fun i => if i = q then b else z i) l := by
  have h2 := Blk.set_ h q (.int .u8 b)
  have e : (mmC z l).setIfInBounds q (.int .u8 b) = mmC (fun i => if i = q then b else z i) l := by
    rw [mmC_v, mmC_v, vArr_set]
    exact vArr_congr fun i hi => by
      by_cases e : i = q
      · subst e; rw [if_pos rfl]; unfold mmV; dsimp only; rw [if_pos hq, if_pos rfl]
      · rw [if_neg e]; unfold mmV
        by_cases e8 : i < 8
        · dsimp only; rw [if_pos e8, if_pos e8, if_neg e]
        · rw [if_neg e8, if_neg e8]
  rw [e] at h2
  exact h2
theorem RMu.at_ (h : RMu w g z l) (q : Nat) (hq : q < 8) : w.cell? ⟨g, q, none⟩ = some (.int .u8 (z q)) := by
  rw [Blk.cell h, mmC_v, vArr_at 9 _ _ (by omega)]; unfold mmV; rw [if_pos hq]
/-- What is moved from the lowest page of a mask, from the highest page down. -/
def gk (f : Nat → Bool) (z : Nat → Int) (l : Int) : Nat → Int
  | 0 => l
  | j + 1 => if f (7 - j) = true then z (7 - j) else gk f z l j
theorem rmphys_any (h : RMu w g z l) (hz : ∀ i, i < 8 → 0 ≤ z i ∧ z i ≤ 255) (a : Int) (a0 : 0 ≤ a) (a1 : a ≤ 65535) :
    Calls Tryz.prog 41 #[.pointer (some ⟨g, 0, none⟩), .int .u16 a] w fun e w' => e = .returned (.int .u32 (phI z a)) ∧ w = w' := by
  obtain ⟨q, hq⟩ : ∃ q, a.toNat / 8192 = q := ⟨_, rfl⟩
  have hq8 : q < 8 := by omega
  have hqw : IntKind.u16.wrap (a.tdiv 8192) = (q : Int) := by rw [Int.tdiv_eq_ediv_of_nonneg a0, IntWalk.u16_in _ (by omega)]; omega
  obtain ⟨b0, b1⟩ := hz q hq8
  have c0 := h.at_ q hq8
  have hr : phI z a = z q * 8192 + a % 8192 := by unfold phI; rw [hq]
  rw [hr]
  clear h hz hr hq
  obtain ⟨v, hv⟩ : ∃ v, z q = v := ⟨_, rfl⟩
  rw [hv] at c0 b0 b1 ⊢
  clear hv
  have i0 : (0 : Int) ≤ (q : Int) := by omega
  have i1 : (q : Int) < 8 := by omega
  go_enter Tryz.func41, Tryz.ntmps41
  go_wp2_with fail
  go_ret
  exact ⟨by go_num, rfl⟩
end
end Go.Proofs.YtngfmofjonleeaaGreat
