/-
  Noise in memory, by itself or within something else: all its calls.
-/
import Derived.Test.YtaamfcbpelbboaaDoorNoi4
import Derived.Test.YtaamfcbpelbboaaDoorNoi5
import Derived.Test.YtaamfcbpelbboaaDoorG14
import Derived.Deep.QuietTactic
import Derived.BigQuiet
namespace Go.Proofs.YtaamfcbpelbboaaDoor
open Go.RowKit
set_option linter.unusedVariables false
set_option linter.unusedSimpArgs false
set_option maxRecDepth 100000
/-- The cells of noise, laid at place o. -/
def nzPut (cs : Array Value) (o : Nat) (x : Nz) : Array Value := ((cs.setIfInBounds o (.int .u32 x.st)).setIfInBounds (o + 1) (.int .i64 x.left)).setIfInBounds (o + 2) (.int .u8 x.fr)
section
variable {cs : Array Value} {o : Nat} {x : Nz}
theorem nzPut_size : (nzPut cs o x).size = cs.size := by simp [nzPut]
theorem nzPut_at (i : Nat) (h : o + 3 ≤ cs.size) : (nzPut cs o x)[i]? = if i = o then some (.int .u32 x.st) else if i = o + 1 then some (.int .i64 x.left) else if i = o + 2 then some (.int .u8 x.fr) else cs[i]? := by
  unfold nzPut
  simp only [Array.getElem?_setIfInBounds, Array.size_setIfInBounds]
  by_cases e0 : i = o
  · subst e0; simp; omega
  by_cases e1 : i = o + 1
  · subst e1; simp; omega
  by_cases e2 : i = o + 2
  · subst e2; simp; omega
  rw [if_neg (by omega), if_neg (by omega), if_neg (by omega), if_neg e0, if_neg e1, if_neg e2]
theorem nzPut_put (h : o + 3 ≤ cs.size) (x' : Nz) : nzPut (nzPut cs o x) o x' = nzPut cs o x' := by
  apply Array.ext_getElem?
  intro i
  rw [nzPut_at i (by rw [nzPut_size]; exact h), nzPut_at i h, nzPut_at i h]
  split <;> (try rfl)
  split <;> (try rfl)
  split <;> rfl
theorem nzPut_st (h : o + 3 ≤ cs.size) (y : Nat) : (nzPut cs o x).setIfInBounds o (.int .u32 y) = nzPut cs o ⟨y, x.left, x.fr⟩ := by
  apply Array.ext_getElem?
  intro i
  rw [Array.getElem?_setIfInBounds, nzPut_at i h, nzPut_at i h, nzPut_size]
  by_cases e : o = i
  · subst e; simp; omega
  · have e' : ¬ i = o := fun z => e z.symm
    rw [if_neg e]
    simp only [if_neg e']
theorem nzPut_left (h : o + 3 ≤ cs.size) (y : Nat) : (nzPut cs o x).setIfInBounds (o + 1) (.int .i64 y) = nzPut cs o ⟨x.st, y, x.fr⟩ := by
  apply Array.ext_getElem?
  intro i
  rw [Array.getElem?_setIfInBounds, nzPut_at i h, nzPut_at i h, nzPut_size]
  by_cases e : o + 1 = i
  · subst e; simp; omega
  · have e' : ¬ i = o + 1 := fun z => e z.symm
    rw [if_neg e]
    simp only [if_neg e']
theorem nzPut_fr (h : o + 3 ≤ cs.size) (y : Int) : (nzPut cs o x).setIfInBounds (o + 2) (.int .u8 y) = nzPut cs o ⟨x.st, x.left, y⟩ := by
  apply Array.ext_getElem?
  intro i
  rw [Array.getElem?_setIfInBounds, nzPut_at i h, nzPut_at i h, nzPut_size]
  by_cases e : o + 2 = i
  · subst e; simp; omega
  · have e' : ¬ i = o + 2 := fun z => e z.symm
    rw [if_neg e]
    simp only [if_neg e']
end
/-- At place o of block g, whose other cells are those of cs, there is noise. -/
def NZ (w : World) (g : Nat) (T : TypeId) (cs : Array Value) (o : Nat) (x : Nz) : Prop := Blk w g T (nzPut cs o x) ∧ o + 3 ≤ cs.size ∧ x.ok
/-- What a call on noise leaves. -/
def NzR (v : Value) (g : Nat) (T : TypeId) (cs : Array Value) (o : Nat) (x : Nz) (w : World) (e : Ending) (w' : World) : Prop := e = .returned v ∧ NZ w' g T cs o x ∧ Kp [g] w w'
section
variable {w w' : World} {g : Nat} {T : TypeId} {cs : Array Value} {o : Nat} {x x' : Nz}
theorem NZ.kp {L : List Nat} (h : NZ w g T cs o x) (k : Kp L w w') (hL : g ∉ L) : NZ w' g T cs o x := ⟨h.1.kp k hL, h.2⟩
theorem NZ.keep {n : Nat} (h : NZ w g T cs o x) (k : Below n w w') (hn : g < n) : NZ w' g T cs o x := ⟨h.1.below k hn, h.2⟩
theorem NZ.lt (h : NZ w g T cs o x) : g < w.heap.size := h.1.lt
theorem NZ.cells (h : NZ w g T cs o x) : w.cell? ⟨g, o, none⟩ = some (.int .u32 x.st) ∧ w.cell? ⟨g, o + 1, none⟩ = some (.int .i64 x.left) ∧ w.cell? ⟨g, o + 2, none⟩ = some (.int .u8 x.fr) := by
  obtain ⟨hb, hs, _⟩ := h
  refine ⟨?_, ?_, ?_⟩ <;> rw [hb.cell, nzPut_at _ hs] <;> simp
theorem NZ.put {v : Value} {k : Nat} (h : NZ w g T cs o x) (e : (nzPut cs o x).setIfInBounds k v = nzPut cs o x') (hs : x'.ok) : NZ (w.setCell ⟨g, k, none⟩ v) g T cs o x' ∧ Kp [g] w (w.setCell ⟨g, k, none⟩ v) := by
  refine ⟨⟨?_, h.2.1, hs⟩, (Kp.refl _ _).setCell (.inl (by simp)) _⟩
  rw [← e]
  exact h.1.set_ k v
end
theorem period_any (fr : Int) (w : World) (h0 : 0 ≤ fr) (h1 : fr ≤ 255) :
    Calls Tryd.prog 63 #[.int .u8 fr] w fun e w' => e = .returned (.int .i64 (perN fr)) ∧ w = w' := by
  have e1 : max (64 * (31 - fr % 32)) 32 = (perN fr : Int) := by
    unfold perN; split <;> omega
  generalize (perN fr : Int) = p at *
  go_enter Tryd.func63, Tryd.ntmps63
  go_wp2
  go_ret
  exact ⟨rfl, rfl⟩
theorem rperiod_any (fr : Int) (w : World) (h0 : 0 ≤ fr) (h1 : fr ≤ 255) :
    Calls Tryd.prog 52 #[.int .u8 fr] w fun e w' => e = .returned (.int .i64 (perN fr)) ∧ w = w' := by
  by_cases h : fr % 32 = 31
  · have e1 : (perN fr : Int) = 32 := by unfold perN; rw [if_pos h]; rfl
    have j1 : (64 * (31 - fr % 32) == 0) = true := by rw [h]; rfl
    rw [e1]
    clear e1
    go_enter Tryd.func52, Tryd.ntmps52
    go_wp2
    go_ret
    exact ⟨rfl, rfl⟩
  · have e1 : (perN fr : Int) = 64 * (31 - fr % 32) := by unfold perN; rw [if_neg h]; omega
    have j1 : (64 * (31 - fr % 32) == 0) = false := by
      have : ¬ 64 * (31 - fr % 32) = 0 := by omega
      simpa using this
    rw [e1]
    clear e1
    go_enter Tryd.func52, Tryd.ntmps52
    go_wp2
    go_ret
    exact ⟨rfl, rfl⟩
end Go.Proofs.YtaamfcbpelbboaaDoor
