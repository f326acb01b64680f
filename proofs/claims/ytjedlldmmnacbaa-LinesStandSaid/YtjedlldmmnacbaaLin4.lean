/-
  Lines: what they are in memory; New.
-/
import Derived.Test.YtjedlldmmnacbaaLin3
import Derived.Test.YtjedlldmmnacbaaG14
namespace Go.Proofs.Ytjedlldmmnacbaa
open Go.RowKit
set_option linter.unusedVariables false
set_option linter.unusedSimpArgs false
set_option maxRecDepth 100000
def lnC (A : Option Addr) (n c s : Nat) (up : Nat → Bool) (r : Bool) : Array Value := #[.slice A n c, .int .i64 s, .bool (up 0), .bool (up 1), .bool (up 2), .bool (up 3), .bool r]
theorem lnC_up (A : Option Addr) (n c s : Nat) (up : Nat → Bool) (r : Bool) (j : Nat) (h : j < 4) : (lnC A n c s up r)[2 + j]? = some (.bool (up j)) := by
  have : j = 0 ∨ j = 1 ∨ j = 2 ∨ j = 3 := by omega
  rcases this with rfl | rfl | rfl | rfl <;> rfl
theorem lnC_set (A : Option Addr) (n c s : Nat) (up : Nat → Bool) (r : Bool) (j : Nat) (h : j < 4) (b : Bool) : (lnC A n c s up r).setIfInBounds (2 + j) (.bool b) = lnC A n c s (fun i => if i = j then b else up i) r := by
  have : j = 0 ∨ j = 1 ∨ j = 2 ∨ j = 3 := by omega
  rcases this with rfl | rfl | rfl | rfl <;> rfl
/-- The row of edges of lines, which is their own. -/
def EOwn (w : World) (A : Option Addr) (n c : Nat) (es : Nat → Iib) : Prop := n ≤ c ∧ c ≤ maxLen ∧ ERow w A n es ∧ Typed w A 65 ∧ (A = none → n = 0 ∧ c = 0)
def Good (n : Nat) (es : Nat → Iib) : Prop := n ≤ 1000 ∧ (∀ j, j < n → badE es j = 0) ∧ (∀ j, j < n → 0 ≤ (es j).b)
/-- Lines at g, s of their edges having gone by. -/
def LN (w : World) (g n : Nat) (es : Nat → Iib) (s : Nat) (r : Bool) : Prop :=
  s ≤ n ∧ ∃ A c, Blk w g 71 (lnC A n c s (fun j => upTo es s j) r) ∧ EOwn w A n c es
theorem EOwn.kp {w w' : World} {A : Option Addr} {n c : Nat} {es : Nat → Iib} {L : List Nat} (h : EOwn w A n c es) (k : Kp L w w') (hL : ∀ x ∈ L, ∃ t cs, Blk w x t cs ∧ 65 ≠ t) : EOwn w' A n c es := by
  obtain ⟨h1, h2, h3, h4, h5⟩ := h
  exact ⟨h1, h2, FRow.kp h3 k (h4.off hL), h4.kp k (h4.off hL), h5⟩
theorem EOwn.keep {w w' : World} {A : Option Addr} {n c : Nat} {es : Nat → Iib} (h : EOwn w A n c es) (k : Below w.heap.size w w') : EOwn w' A n c es :=
  h.kp (L := []) (Kp.of_below k) (fun x hx => by cases hx)
theorem LN.kp {w w' : World} {g n : Nat} {es : Nat → Iib} {s : Nat} {r : Bool} {L : List Nat} (h : LN w g n es s r) (k : Kp L w w') (hL : ∀ x ∈ L, ∃ t cs, Blk w x t cs ∧ 65 ≠ t) (hg : g ∉ L) : LN w' g n es s r := by
  obtain ⟨h1, A, c, h2, h3⟩ := h
  exact ⟨h1, A, c, h2.kp k hg, h3.kp k hL⟩
theorem LN.keep {w w' : World} {g n : Nat} {es : Nat → Iib} {s : Nat} {r : Bool} (h : LN w g n es s r) (k : Below w.heap.size w w') : LN w' g n es s r :=
  h.kp (L := []) (Kp.of_below k) (fun x hx => by cases hx) (by simp)
theorem LN.lt {w : World} {g n : Nat} {es : Nat → Iib} {s : Nat} {r : Bool} (h : LN w g n es s r) : g < w.heap.size := by
  obtain ⟨_, _, _, h2, _⟩ := h
  exact h2.lt
def NewYR (n : Nat) (es : Nat → Iib) (w : World) (e : Ending) (w' : World) : Prop :=
  ∃ g, e = .returned (.tuple #[.pointer (some ⟨g, 0, none⟩), .agg #[.int .i64 0, .int .i64 0]]) ∧ w.heap.size ≤ g ∧ LN w' g n es 0 false ∧ Below w.heap.size w w'
set_option maxHeartbeats 2000000 in
theorem lnew_yes {w : World} {A : Option Addr} {n c : Nat} {es : Nat → Iib} (hA : A = none → n = 0 ∧ c = 0) (R : ERow w A n es) (hc : n ≤ 9223372036854775807) (h : (chk es n).1 = 0) :
    Calls Try.prog 13 #[.slice A n c] w (NewYR n es w) := by
  have HR := Lib.hid R
  have HA := Lib.hid hA
  obtain ⟨q1, _, q3⟩ := chk_zero h
  have HC := Lib.hid q3
  clear R hA h q3
  go_enter Try.func13, Try.ntmps13
  go_wp2_with fail
  have hB0 : Below w.heap.size w (w.alloc (.cells #[.int .i64 0, .int .i64 0] 26)) := (Below.refl _ _).alloc (Nat.le_refl _) _
  have hb0 : Blk (w.alloc (.cells #[.int .i64 0, .int .i64 0] 26)) w.heap.size 26 #[.int .i64 0, .int .i64 0] := Blk.new w _ _
  refine (check_any (FRow.keep HR.out hB0) hc).mono ?_
  rw [HC.out]
  simp only [fltV]
  rintro e w1 ⟨rfl, h1⟩
  have hB1 := Lib.hid (hB0.trans (h1.mono hB0.size))
  have hb1 := Lib.hid (hb0.below h1 hb0.lt)
  have s1 := hB1.out.size
  clear hB0 hb0 h1
  go_wp2_with fail
  have hB2 := Lib.hid (hB1.out.alloc s1 (.cells #[.int .i64 0, .int .i64 0] 26))
  have hb2 := Lib.hid (hb1.out.alloc (.cells #[.int .i64 0, .int .i64 0] 26))
  have s2 := hB2.out.size
  refine (eclone_any HA.out (FRow.keep HR.out hB2.out) q1).mono ?_
  rintro e w3 ⟨A', c', rfl, e1, e2, e3, e4, e5, h3⟩
  have hB3 := Lib.hid (hB2.out.trans (h3.mono s2))
  have hb3 := hb2.out.below h3 hb2.out.lt
  have s3 := hB3.out.size
  have HE : Hid (EOwn w3 A' n c' es) := Lib.hid ⟨e1, e2, e3, e4, e5⟩
  clear e1 e2 e3 e4 e5 h3 hB1 hb1 hB2 hb2
  have c20 : w3.cell? ⟨w.heap.size, 0, none⟩ = some (.int .i64 0) := hb3.cell 0
  have c21 : w3.cell? ⟨w.heap.size, 1, none⟩ = some (.int .i64 0) := hb3.cell 1
  have f20 := hb3.frozen 0
  have f21 := hb3.frozen 1
  have hlt := hb3.lt
  have HB3 := Lib.hid hb3
  clear hb3
  go_wp2_with fail
  have hb4 := ((HB3.out.set_ 0 (.int .i64 0)).set_ 1 (.int .i64 0)).alloc (.cells (lnC A' n c' 0 (fun _ => false) false) 71)
  have f0 : ((((w3.setCell ⟨w.heap.size, 0, none⟩ (.int .i64 0)).setCell ⟨w.heap.size, 1, none⟩ (.int .i64 0)).alloc (.cells (lnC A' n c' 0 (fun _ => false) false) 71))).cell? ⟨w.heap.size, 0, none⟩ = some (.int .i64 0) := hb4.cell 0
  have f1 : ((((w3.setCell ⟨w.heap.size, 0, none⟩ (.int .i64 0)).setCell ⟨w.heap.size, 1, none⟩ (.int .i64 0)).alloc (.cells (lnC A' n c' 0 (fun _ => false) false) 71))).cell? ⟨w.heap.size, 1, none⟩ = some (.int .i64 0) := hb4.cell 1
  have kp : Kp [w.heap.size] w3 ((((w3.setCell ⟨w.heap.size, 0, none⟩ (.int .i64 0)).setCell ⟨w.heap.size, 1, none⟩ (.int .i64 0)).alloc (.cells (lnC A' n c' 0 (fun _ => false) false) 71))) :=
    (((Kp.refl _ _).setCell (.inl (by simp)) _).setCell (.inl (by simp)) _).alloc _
  have hE := HE.out.kp kp (fun x hx => by
    obtain rfl : x = w.heap.size := by simpa using hx
    exact ⟨_, _, HB3.out, by decide⟩)
  have hB := kp.onto hB3.out s3 (by simp)
  have hL : Blk ((((w3.setCell ⟨w.heap.size, 0, none⟩ (.int .i64 0)).setCell ⟨w.heap.size, 1, none⟩ (.int .i64 0)).alloc (.cells (lnC A' n c' 0 (fun _ => false) false) 71))) w3.heap.size 71 (lnC A' n c' 0 (fun _ => false) false) := Blk.new_ (by simp [World.setCell])
  show bodyPost Try.prog Try.f13 _ _ _ ((((w3.setCell ⟨w.heap.size, 0, none⟩ (.int .i64 0)).setCell ⟨w.heap.size, 1, none⟩ (.int .i64 0)).alloc (.cells (lnC A' n c' 0 (fun _ => false) false) 71)))
  generalize World.alloc _ _ = w4 at *
  refine bodyPost_ret (v := .tuple #[.pointer (some ⟨w3.heap.size, 0, none⟩), .agg #[.int .i64 0, .int .i64 0]]) (by simp [results, Try.results13, go_sem, f0, f1]) rfl ?_
  exact ⟨w3.heap.size, rfl, s3, ⟨Nat.zero_le _, A', c', hL, hE⟩, hB⟩
def NewNR (r : Int × Int) (w : World) (e : Ending) (w' : World) : Prop := e = .returned (.tuple #[.pointer none, .agg #[.int .i64 r.1, .int .i64 r.2]]) ∧ Below w.heap.size w w'
set_option maxHeartbeats 2000000 in
theorem lnew_no {w : World} {A : Option Addr} {n c : Nat} {es : Nat → Iib} (R : ERow w A n es) (hc : n ≤ 9223372036854775807) (h : (chk es n).1 ≠ 0) :
    Calls Try.prog 13 #[.slice A n c] w (NewNR (chk es n) w) := by
  have HR := Lib.hid R
  obtain ⟨⟨a, b⟩, hab⟩ : ∃ r, chk es n = r := ⟨_, rfl⟩
  rw [hab] at h ⊢
  have HC := Lib.hid hab
  have hne : (a == 0) = false := by simpa using h
  clear R h hab
  go_enter Try.func13, Try.ntmps13
  go_wp2_with fail
  have hB0 : Below w.heap.size w (w.alloc (.cells #[.int .i64 0, .int .i64 0] 26)) := (Below.refl _ _).alloc (Nat.le_refl _) _
  have hb0 : Blk (w.alloc (.cells #[.int .i64 0, .int .i64 0] 26)) w.heap.size 26 #[.int .i64 0, .int .i64 0] := Blk.new w _ _
  refine (check_any (FRow.keep HR.out hB0) hc).mono ?_
  rw [HC.out]
  simp only [fltV]
  rintro e w1 ⟨rfl, h1⟩
  have hB1 := Lib.hid (hB0.trans (h1.mono hB0.size))
  have hb1 := Lib.hid (hb0.below h1 hb0.lt)
  have s1 := hB1.out.size
  clear hB0 hb0 h1
  go_wp2_with fail
  have hB2 := Lib.hid (hB1.out.alloc s1 (.cells #[.int .i64 a, .int .i64 b] 26))
  have hb2 := hb1.out.alloc (.cells #[.int .i64 a, .int .i64 b] 26)
  have c20 : (w1.alloc (.cells #[.int .i64 a, .int .i64 b] 26)).cell? ⟨w.heap.size, 0, none⟩ = some (.int .i64 0) := hb2.cell 0
  have c21 : (w1.alloc (.cells #[.int .i64 a, .int .i64 b] 26)).cell? ⟨w.heap.size, 1, none⟩ = some (.int .i64 0) := hb2.cell 1
  have f20 := hb2.frozen 0
  have f21 := hb2.frozen 1
  have n1 := Blk.new w1 26 #[.int .i64 a, .int .i64 b]
  have c30 : (w1.alloc (.cells #[.int .i64 a, .int .i64 b] 26)).cell? ⟨w1.heap.size, 0, none⟩ = some (.int .i64 a) := n1.cell 0
  have c31 : (w1.alloc (.cells #[.int .i64 a, .int .i64 b] 26)).cell? ⟨w1.heap.size, 1, none⟩ = some (.int .i64 b) := n1.cell 1
  have HB2 := Lib.hid hb2
  clear hb2 n1
  generalize w1.alloc _ = w2 at *
  generalize w1.heap.size = g1 at *
  go_region
  all_goals
    go_wp2_with fail
    have hb3 := HB2.out.set_ 0 (.int .i64 a)
    have hb4 := hb3.set_ 1 (.int .i64 b)
    have e0 : (w2.setCell ⟨w.heap.size, 0, none⟩ (.int .i64 a)).cell? ⟨w.heap.size, 0, none⟩ = some (.int .i64 a) := hb3.cell 0
    have f0 : ((w2.setCell ⟨w.heap.size, 0, none⟩ (.int .i64 a)).setCell ⟨w.heap.size, 1, none⟩ (.int .i64 b)).cell? ⟨w.heap.size, 0, none⟩ = some (.int .i64 a) := hb4.cell 0
    have f1 : ((w2.setCell ⟨w.heap.size, 0, none⟩ (.int .i64 a)).setCell ⟨w.heap.size, 1, none⟩ (.int .i64 b)).cell? ⟨w.heap.size, 1, none⟩ = some (.int .i64 b) := hb4.cell 1
    show bodyPost Try.prog Try.f13 _ _ _ ((w2.drew.setCell ⟨w.heap.size, 0, none⟩ (.int .i64 a)).setCell ⟨w.heap.size, 1, none⟩ (.int .i64 b))
    have hB := (hB2.out.drew.setCell (p := ⟨w.heap.size, 0, none⟩) (Nat.le_refl _) (.int .i64 a)).setCell (p := ⟨w.heap.size, 1, none⟩) (Nat.le_refl _) (.int .i64 b)
    refine bodyPost_ret (v := .tuple #[.pointer none, .agg #[.int .i64 a, .int .i64 b]]) (by simp [results, Try.results13, go_sem, e0, f0, f1]) rfl ?_
    exact ⟨rfl, hB⟩
end Go.Proofs.Ytjedlldmmnacbaa
