/-
  A channel of sound: plain facts, and what it is in memory.
-/
import Derived.Test.YtnelcbbjnpaodaaNoi7
import Derived.Test.YtnelcbbjnpaodaaMW
namespace Go.Proofs.Ytnelcbbjnpaodaa
open Go.RowKit
set_option linter.unusedVariables false
set_option linter.unusedSimpArgs false
set_option maxRecDepth 100000
/-- A channel. -/
structure Cw where
  nz : Nz
  wv : Nat → Int
  pl : Nat
  fq : Nat
  bd : Int
  left : Nat
  ct : Int
  bl : Int
  td : Int
  ns : Bool
def Cw.ok (x : Cw) : Prop := x.nz.ok ∧ x.pl < 32 ∧ x.fq < 4096 ∧ (-4096 ≤ x.bd ∧ x.bd ≤ 4096) ∧ (0 < x.left ∧ x.left ≤ 4096) ∧ (0 ≤ x.ct ∧ x.ct ≤ 255) ∧ (0 ≤ x.bl ∧ x.bl ≤ 255) ∧ (∀ i, 0 ≤ x.wv i ∧ x.wv i ≤ 255)
def Cw.new : Cw := ⟨Nz.new 0, fun _ => 0, 0, 0, 0, 4096, 0, 0, 0, false⟩
theorem Cw.new_ok : Cw.new.ok := ⟨Nz.new_ok (by decide) (by decide), by decide, by decide, ⟨by decide, by decide⟩, ⟨by decide, by decide⟩, ⟨by decide, by decide⟩, ⟨by decide, by decide⟩, fun _ => ⟨Int.le_refl 0, by show (0 : Int) ≤ 255; decide⟩⟩
def Cw.per (x : Cw) : Nat := if ((x.fq : Int) + x.bd + 4096) % 4096 = 0 then 4096 else (((x.fq : Int) + x.bd + 4096) % 4096).toNat
theorem Cw.per_bd (x : Cw) : 0 < x.per ∧ x.per ≤ 4096 := by unfold Cw.per; split <;> omega
def Cw.tell (x : Cw) : Bool := bitB x.ct 6
def Cw.on (x : Cw) : Bool := bitB x.ct 7
/-- Its wave goes on. -/
def Cw.runs (x : Cw) : Bool := x.on && !x.tell
def Cw.goW (x : Cw) (N : Nat) : Cw := if x.runs = true then { x with pl := (x.pl + dnS N x.left x.per) % 32, left := dnL N x.left x.per } else x
def Cw.goN (x : Cw) (N : Nat) : Cw := if x.ns = true then { x with nz := x.nz.go N } else x
def Cw.go (x : Cw) (N : Nat) : Cw := (x.goN N).goW N
def Cw.bend (x : Cw) (d : Int) : Cw := { x with bd := min (max d (-4096)) 4096 }
def Cw.take (x : Cw) (l : Int) : Cw := if x.tell = true then { x with td := l } else { x with wv := fun i => if i = x.pl then l else x.wv i, pl := (x.pl + 1) % 32 }
def Cw.wr (x : Cw) (r b : Int) : Cw :=
  if r = 2 then { x with fq := x.fq / 256 * 256 + b.toNat }
  else if r = 3 then { x with fq := (b % 16).toNat * 256 + x.fq % 256 }
  else if r = 4 then { x with ct := b, pl := if bitB b 6 && !bitB b 7 then 0 else x.pl }
  else if r = 5 then { x with bl := b }
  else if r = 6 then x.take (b % 32)
  else if r = 7 then { x with nz := x.nz.set b, ns := bitB b 7 }
  else x
def Cw.lvl (x : Cw) : Int := if x.on = false then 0 else if x.tell = true then x.td else if x.ns = true then lvN x.nz.st else x.wv x.pl
theorem Cw.goN_ok {x : Cw} (h : x.ok) (N : Nat) : (x.goN N).ok := by
  unfold Cw.goN
  split
  · exact ⟨Nz.go_ok h.1 N, h.2⟩
  · exact h
theorem Cw.goW_ok {x : Cw} (h : x.ok) (N : Nat) : (x.goW N).ok := by
  obtain ⟨a1, a2, a3, a4, a5, a6⟩ := h
  unfold Cw.goW
  split
  · exact ⟨a1, Nat.mod_lt _ (by decide), a3, a4, ⟨dnL_pos a5.1 x.per_bd.1, dnL_le a5.2 x.per_bd.2⟩, a6⟩
  · exact ⟨a1, a2, a3, a4, a5, a6⟩
theorem Cw.go_ok {x : Cw} (h : x.ok) (N : Nat) : (x.go N).ok := Cw.goW_ok (Cw.goN_ok h N) N
theorem Cw.bend_ok {x : Cw} (h : x.ok) (d : Int) : (x.bend d).ok := ⟨h.1, h.2.1, h.2.2.1, ⟨by show -4096 ≤ min (max d (-4096)) 4096; omega, by show min (max d (-4096)) 4096 ≤ 4096; omega⟩, h.2.2.2.2⟩
theorem Cw.take_ok {x : Cw} (h : x.ok) {l : Int} (h0 : 0 ≤ l) (h1 : l ≤ 255) : (x.take l).ok := by
  obtain ⟨a1, a2, a3, a4, a5, a6, a7, a8⟩ := h
  unfold Cw.take
  split
  · exact ⟨a1, a2, a3, a4, a5, a6, a7, a8⟩
  · exact ⟨a1, Nat.mod_lt _ (by decide), a3, a4, a5, a6, a7, fun i => by
      show 0 ≤ (if i = x.pl then l else x.wv i) ∧ (if i = x.pl then l else x.wv i) ≤ 255
      split
      · exact ⟨h0, h1⟩
      · exact a8 i⟩
theorem Cw.wr_ok {x : Cw} (h : x.ok) (r : Int) {b : Int} (h0 : 0 ≤ b) (h1 : b ≤ 255) : (x.wr r b).ok := by
  have h' := h
  obtain ⟨a1, a2, a3, a4, a5, a6, a7, a8⟩ := h
  unfold Cw.wr
  split
  · exact ⟨a1, a2, by dsimp only; omega, a4, a5, a6, a7, a8⟩
  split
  · exact ⟨a1, a2, by dsimp only; omega, a4, a5, a6, a7, a8⟩
  split
  · exact ⟨a1, by dsimp only; split <;> omega, a3, a4, a5, ⟨h0, h1⟩, a7, a8⟩
  split
  · exact ⟨a1, a2, a3, a4, a5, a6, ⟨h0, h1⟩, a8⟩
  split
  · exact Cw.take_ok h' (by omega) (by omega)
  split
  · exact ⟨Nz.set_ok a1 h0 h1, a2, a3, a4, a5, a6, a7, a8⟩
  · exact h'
theorem Cw.go_eq (x : Cw) (N : Nat) : x.go N = ⟨if x.ns = true then x.nz.go N else x.nz, x.wv, if x.runs = true then (x.pl + dnS N x.left x.per) % 32 else x.pl, x.fq, x.bd, if x.runs = true then dnL N x.left x.per else x.left, x.ct, x.bl, x.td, x.ns⟩ := by
  obtain ⟨nz, wv, pl, fq, bd, left, ct, bl, td, ns⟩ := x
  have e1 : ∀ m : Nz, Cw.runs ⟨m, wv, pl, fq, bd, left, ct, bl, td, ns⟩ = Cw.runs ⟨nz, wv, pl, fq, bd, left, ct, bl, td, ns⟩ := fun m => rfl
  have e2 : ∀ m : Nz, Cw.per ⟨m, wv, pl, fq, bd, left, ct, bl, td, ns⟩ = Cw.per ⟨nz, wv, pl, fq, bd, left, ct, bl, td, ns⟩ := fun m => rfl
  unfold Cw.go Cw.goN
  dsimp only
  cases ns with
  | false =>
    rw [if_neg (by simp), if_neg (by simp)]
    unfold Cw.goW
    split
    · rfl
    · rfl
  | true =>
    rw [if_pos rfl, if_pos rfl]
    unfold Cw.goW
    dsimp only
    rw [e1, e2]
    split
    · rfl
    · rfl
/-- Gone on in parts it is as gone on at once. -/
theorem Cw.go_add {x : Cw} (h : x.ok) (a b : Nat) : x.go (a + b) = (x.go a).go b := by
  obtain ⟨e1, e2⟩ := dn_add x.per x.per_bd.1 a b x.left h.2.2.2.2.1.1
  have n1 := Nz.go_add h.1 a b
  rw [Cw.go_eq x (a + b), Cw.go_eq (x.go a) b]
  have hr : (x.go a).runs = x.runs := by rw [Cw.go_eq]; rfl
  have hp : (x.go a).per = x.per := by rw [Cw.go_eq]; rfl
  rw [hr, hp, Cw.go_eq x a]
  dsimp only
  congr 1
  · split
    · exact n1
    · rfl
  · split
    · rw [e1]; omega
    · rfl
  · split
    · exact e2
    · rfl
theorem Cw.go_zero {x : Cw} (h : x.ok) : x.go 0 = x := by
  obtain ⟨e1, e2⟩ := dn_lt (p := x.per) h.2.2.2.2.1.1
  have n1 := Nz.go_zero h.1
  rw [Cw.go_eq, e1, e2, n1]
  have := h.2.1
  have e3 : (x.pl + 0) % 32 = x.pl := by omega
  rw [e3, Nat.sub_zero]
  simp
/-- What stands in its cells. -/
def chV (x : Cw) (i : Nat) : Value :=
  if i = 0 then .int .u32 x.nz.st else if i = 1 then .int .i64 x.nz.left else if i = 2 then .int .u8 x.nz.fr
  else if i < 35 then .int .u8 (x.wv (i - 3))
  else if i = 35 then .int .i64 x.pl else if i = 36 then .int .i64 x.fq else if i = 37 then .int .i64 x.bd else if i = 38 then .int .i64 x.left else if i = 39 then .int .u8 x.ct else if i = 40 then .int .u8 x.bl else if i = 41 then .int .u8 x.td else .bool x.ns
def chC (x : Cw) : Array Value := ((List.range 43).map (chV x)).toArray
theorem chC_size (x : Cw) : (chC x).size = 43 := by simp [chC]
theorem chC_at (x : Cw) (i : Nat) (h : i < 43) : (chC x)[i]? = some (chV x i) := by simp [chC, h]
theorem chC_one (x : Cw) : ∀ v ∈ (chC x).toList, v.oneCell' = true := by
  intro v hv
  simp only [chC, List.mem_map, List.mem_range] at hv
  obtain ⟨i, _, rfl⟩ := hv
  unfold chV
  repeat' split
  all_goals rfl
theorem chC_set {x y : Cw} (i : Nat) (v : Value) (h : ∀ j, j < 43 → chV y j = if j = i then v else chV x j) : (chC x).setIfInBounds i v = chC y := by
  apply Array.ext_getElem?
  intro j
  by_cases hj : j < 43
  · rw [chC_at y j hj, h j hj]
    by_cases e : i = j
    · subst e
      rw [Array.getElem?_setIfInBounds_self_of_lt (by rw [chC_size]; exact hj), if_pos rfl]
    · rw [Array.getElem?_setIfInBounds_ne e, chC_at x j hj, if_neg (fun z => e z.symm)]
  · rw [Array.getElem?_eq_none (by rw [Array.size_setIfInBounds, chC_size]; omega), Array.getElem?_eq_none (by rw [chC_size]; omega)]
/-- A channel at g. -/
def CW (w : World) (g : Nat) (x : Cw) : Prop := Blk w g 68 (chC x) ∧ x.ok
section
variable {w w' : World} {g : Nat} {x y : Cw} {L : List Nat}
theorem CW.kp (h : CW w g x) (k : Kp L w w') (hL : g ∉ L) : CW w' g x := ⟨h.1.kp k hL, h.2⟩
theorem CW.keep {n : Nat} (h : CW w g x) (k : Below n w w') (hn : g < n) : CW w' g x := ⟨h.1.below k hn, h.2⟩
theorem CW.lt (h : CW w g x) : g < w.heap.size := h.1.lt
theorem CW.cell (h : CW w g x) (i : Nat) (hi : i < 43) : w.cell? ⟨g, i, none⟩ = some (chV x i) := by rw [h.1.cell, chC_at x i hi]
theorem CW.wave (h : CW w g x) (k : Nat) (hk : k < 32) : w.cell? ⟨g, 3 + k, none⟩ = some (.int .u8 (x.wv k)) := by
  rw [h.cell (3 + k) (by omega)]
  unfold chV
  rw [if_neg (by omega), if_neg (by omega), if_neg (by omega), if_pos (by omega), show 3 + k - 3 = k by omega]
theorem CW.put (h : CW w g x) (i : Nat) (v : Value) (e : ∀ j, j < 43 → chV y j = if j = i then v else chV x j) (hy : y.ok) : CW (w.setCell ⟨g, i, none⟩ v) g y ∧ Kp [g] w (w.setCell ⟨g, i, none⟩ v) := by
  refine ⟨⟨?_, hy⟩, (Kp.refl _ _).setCell (.inl (by simp)) _⟩
  rw [← chC_set i v e]
  exact h.1.set_ i v
theorem nz_chC (x : Cw) (m : Nz) : nzPut (chC x) 0 m = chC { x with nz := m } := by
  apply Array.ext_getElem?
  intro i
  rw [nzPut_at i (by rw [chC_size]; decide)]
  by_cases hi : i < 43
  · rw [chC_at x i hi, chC_at _ i hi]
    by_cases e0 : i = 0
    · subst e0; rfl
    by_cases e1 : i = 1
    · subst e1; rfl
    by_cases e2 : i = 2
    · subst e2; rfl
    rw [if_neg e0, if_neg (by omega), if_neg (by omega)]
    unfold chV
    rw [if_neg e0, if_neg e1, if_neg e2, if_neg e0, if_neg e1, if_neg e2]
  · rw [if_neg (by omega), if_neg (by omega), if_neg (by omega), Array.getElem?_eq_none (by rw [chC_size]; omega), Array.getElem?_eq_none (by rw [chC_size]; omega)]
/-- Its noise. -/
theorem CW.noise (h : CW w g x) : NZ w g 68 (chC x) 0 x.nz ∧ ∀ w' m, NZ w' g 68 (chC x) 0 m → Kp [g] w w' → CW w' g { x with nz := m } := by
  refine ⟨⟨by rw [nz_chC]; exact h.1, by rw [chC_size]; decide, h.2.1⟩, fun w' m h' k => ?_⟩
  obtain ⟨q1, _, q3⟩ := h'
  rw [nz_chC] at q1
  exact ⟨q1, q3, h.2.2⟩
end
end Go.Proofs.Ytnelcbbjnpaodaa
