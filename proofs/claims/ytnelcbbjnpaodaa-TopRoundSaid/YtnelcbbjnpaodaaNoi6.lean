/-
  Noise in memory, by itself or within something else: all its calls.
-/
import Derived.Test.YtnelcbbjnpaodaaNoi4
import Derived.Test.YtnelcbbjnpaodaaNoi5
import Derived.Test.YtnelcbbjnpaodaaG14
import Derived.Deep.QuietTactic
import Derived.BigQuiet
namespace Go.Proofs.Ytnelcbbjnpaodaa
open Go.RowKit
set_option linter.unusedVariables false
set_option linter.unusedSimpArgs false
set_option maxRecDepth 100000
/-- The cells of noise, laid at place o. -/
def nzPut (cs : Array Value) (o : Nat) (x : Nz) : Array Value := ((cs.setIfInBounds o (.int .u32 x.st)).setIfInBounds (o + 1) (.int .i64 x.left)).setIfInBounds (o + 2) (.int .u8 x.fr)
section
variable {cs : Array Value} {o : Nat} {x : Nz}
theorem nzPut_size : (nzPut cs o x).size = cs.size := by simp [nzPut]
theorem nzPut_at (i : Nat) (h : o + 3 ≤ cs.size) : (nzPut cs o x)[i]? = if i = o then some (.int .u32 x.st) else if i = o + 1 then some (.int .i64 x.left) else if i = o + 2 then some (.int .u8 x.fr) else cs[i]? := by
  unfold nzPut
  simp only [Array.getElem?_setIfInBounds, Array.size_setIfInBounds]
  by_cases e0 : i = o
  · subst e0; simp; omega
  by_cases e1 : i = o + 1
  · subst e1; simp; omega
  by_cases e2 : i = o + 2
  · subst e2; simp; omega
  rw [if_neg (by omega), if_neg (by omega), if_neg (by omega), if_neg e0, if_neg e1, if_neg e2]
theorem nzPut_put (h : o + 3 ≤ cs.size) (x' : Nz) : nzPut (nzPut cs o x) o x' = nzPut cs o x' := by
  apply Array.ext_getElem?
  intro i
  rw [nzPut_at i (by rw [nzPut_size]; exact h), nzPut_at i h, nzPut_at i h]
  split <;> (try rfl)
  split <;> (try rfl)
  split <;> rfl
theorem nzPut_st (h : o + 3 ≤ cs.size) (y : Nat) : (nzPut cs o x).setIfInBounds o (.int .u32 y) = nzPut cs o ⟨y, x.left, x.fr⟩ := by
  apply Array.ext_getElem?
  intro i
  rw [Array.getElem?_setIfInBounds, nzPut_at i h, nzPut_at i h, nzPut_size]
  by_cases e : o = i
  · subst e; simp; omega
  · have e' : ¬ i = o := fun z => e z.symm
    rw [if_neg e]
    simp only [if_neg e']
theorem nzPut_left (h : o + 3 ≤ cs.size) (y : Nat) : (nzPut cs o x).setIfInBounds (o + 1) (.int .i64 y) = nzPut cs o ⟨x.st, y, x.fr⟩ := by
  apply Array.ext_getElem?
  intro i
  rw [Array.getElem?_setIfInBounds, nzPut_at i h, nzPut_at i h, nzPut_size]
  by_cases e : o + 1 = i
  · subst e; simp; omega
  · have e' : ¬ i = o + 1 := fun z => e z.symm
    rw [if_neg e]
    simp only [if_neg e']
theorem nzPut_fr (h : o + 3 ≤ cs.size) (y : Int) : (nzPut cs o x).setIfInBounds (o + 2) (.int .u8 y) = nzPut cs o ⟨x.st, x.left, y⟩ := by
  apply Array.ext_getElem?
  intro i
  rw [Array.getElem?_setIfInBounds, nzPut_at i h, nzPut_at i h, nzPut_size]
  by_cases e : o + 2 = i
  · subst e; simp; omega
  · have e' : ¬ i = o + 2 := fun z => e z.symm
    rw [if_neg e]
    simp only [if_neg e']
end
/-- At place o of block g, whose other cells are those of cs, there is noise. -/
def NZ (w : World) (g : Nat) (T : TypeId) (cs : Array Value) (o : Nat) (x : Nz) : Prop := Blk w g T (nzPut cs o x) ∧ o + 3 ≤ cs.size ∧ x.ok
/-- What a call on noise leaves. -/
def NzR (v : Value) (g : Nat) (T : TypeId) (cs : Array Value) (o : Nat) (x : Nz) (w : World) (e : Ending) (w' : World) : Prop := e = .returned v ∧ NZ w' g T cs o x ∧ Kp [g] w w'
section
variable {w w' : World} {g : Nat} {T : TypeId} {cs : Array Value} {o : Nat} {x x' : Nz}
theorem NZ.kp {L : List Nat} (h : NZ w g T cs o x) (k : Kp L w w') (hL : g ∉ L) : NZ w' g T cs o x := ⟨h.1.kp k hL, h.2⟩
theorem NZ.keep {n : Nat} (h : NZ w g T cs o x) (k : Below n w w') (hn : g < n) : NZ w' g T cs o x := ⟨h.1.below k hn, h.2⟩
theorem NZ.lt (h : NZ w g T cs o x) : g < w.heap.size := h.1.lt
theorem NZ.cells (h : NZ w g T cs o x) : w.cell? ⟨g, o, none⟩ = some (.int .u32 x.st) ∧ w.cell? ⟨g, o + 1, none⟩ = some (.int .i64 x.left) ∧ w.cell? ⟨g, o + 2, none⟩ = some (.int .u8 x.fr) := by
  obtain ⟨hb, hs, _⟩ := h
  refine ⟨?_, ?_, ?_⟩ <;> rw [hb.cell, nzPut_at _ hs] <;> simp
theorem NZ.put {v : Value} {k : Nat} (h : NZ w g T cs o x) (e : (nzPut cs o x).setIfInBounds k v = nzPut cs o x') (hs : x'.ok) : NZ (w.setCell ⟨g, k, none⟩ v) g T cs o x' ∧ Kp [g] w (w.setCell ⟨g, k, none⟩ v) := by
  refine ⟨⟨?_, h.2.1, hs⟩, (Kp.refl _ _).setCell (.inl (by simp)) _⟩
  rw [← e]
  exact h.1.set_ k v
end
theorem period_any (fr : Int) (w : World) (h0 : 0 ≤ fr) (h1 : fr ≤ 255) :
    Calls Try.prog 43 #[.int .u8 fr] w fun e w' => e = .returned (.int .i64 (perN fr)) ∧ w = w' := by
  have e1 : max (64 * (31 - fr % 32)) 32 = (perN fr : Int) := by
    unfold perN; split <;> omega
  generalize (perN fr : Int) = p at *
  go_enter Try.func43, Try.ntmps43
  go_wp2
  go_ret
  exact ⟨rfl, rfl⟩
theorem down_any (n : Int) (L p : Nat) (w : World) (hn : n ≤ 9223372036854775807) (hL0 : 0 < L) (hL : L ≤ 4611686018427387904) (hp0 : 0 < p) (hp : p ≤ 4611686018427387904) :
    Calls Try.prog 40 #[.int .i64 n, .int .i64 L, .int .i64 p] w fun e w' => e = .returned (.tuple #[.int .i64 (dnS n.toNat L p : Nat), .int .i64 (dnL n.toNat L p : Nat)]) ∧ Below w.heap.size w w' := by
  obtain ⟨N, hN⟩ : ∃ N : Nat, n.toNat = N := ⟨_, rfl⟩
  have e1 : max n 0 = (N : Int) := by omega
  have hN1 : N ≤ 9223372036854775807 := by omega
  rw [hN]
  clear hN hn
  by_cases h : N < L
  · obtain ⟨d1, d2⟩ := dn_lt (p := p) h
    rw [d1, d2]
    have d3 : ((L - N : Nat) : Int) = -((N : Int) - (L : Int)) := by omega
    rw [d3]
    clear d1 d2 d3
    go_enter Try.func40, Try.ntmps40
    go_wp2
    go_ret2
    exact ⟨rfl, Below.refl _ _⟩
  · have d1 : dnS N L p = 1 + (N - L) / p := by unfold dnS; rw [if_neg h]
    have d2 : dnL N L p = p - (N - L) % p := by unfold dnL; rw [if_neg h]
    have d3 := Nat.mod_lt (N - L) hp0
    have d4 := Nat.div_le_self (N - L) p
    rw [d1, d2]
    obtain ⟨B, hB⟩ : ∃ B, N - L = B := ⟨_, rfl⟩
    have b1 : (N : Int) - (L : Int) = (B : Int) := by omega
    rw [hB] at d3 d4 ⊢
    have hB0 : B ≤ N := by omega
    have q1 : (B : Int) / (p : Int) = ((B / p : Nat) : Int) := rfl
    have q2 : Int.tdiv (B : Int) (p : Int) = ((B / p : Nat) : Int) := by rw [Int.tdiv_eq_ediv_of_nonneg (by omega)]; rfl
    have r1 : (B : Int) % (p : Int) = ((B % p : Nat) : Int) := rfl
    have r2 : Int.tmod (B : Int) (p : Int) = ((B % p : Nat) : Int) := by rw [Int.tmod_eq_emod_of_nonneg (by omega)]; rfl
    generalize B / p = q at *
    generalize B % p = r at *
    have s1 : ((1 + q : Nat) : Int) = 1 + (q : Int) := by omega
    have s2 : ((p - r : Nat) : Int) = (p : Int) - (r : Int) := by omega
    rw [s1, s2]
    have jp : (0 : Int) < (p : Int) := by omega
    have jp1 : ¬ (p : Int) = 0 := by omega
    have jp2 : ((p : Int) == 0) = false := by simpa using jp1
    clear d1 d2 s1 s2 hB
    go_enter Try.func40, Try.ntmps40
    go_wp2
    go_region
    go_wp2
    go_ret2
    exact ⟨rfl, by first | exact Below.refl _ _ | exact (Below.refl _ _).drew⟩
end Go.Proofs.Ytnelcbbjnpaodaa
