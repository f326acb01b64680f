/-
  Texts of these proofs, one behind the other: Lin4, Lin5.
-/
import Derived.Test.YtcnjekballnncaaGreatKH08
namespace Go.Proofs.YtcnjekballnncaaGreat
open Go.RowKit
set_option linter.unusedVariables false
set_option linter.unusedSimpArgs false
set_option maxRecDepth 100000
def lnC (A : Option Addr) (n c s : Nat) (up : Nat → Bool) (r : Bool) : Array Value := #[.slice A n c, .int .i64 s, .bool (up 0), .bool (up 1), .bool (up 2), .bool (up 3), .bool r]
theorem lnC_up (A : Option Addr) (n c s : Nat) (up : Nat → Bool) (r : Bool) (j : Nat) (h : j < 4) : (lnC A n c s up r)[2 + j]? = some (.bool (up j)) := by
  have : j = 0 ∨ j = 1 ∨ j = 2 ∨ j = 3 := by omega
  rcases this with rfl | rfl | rfl | rfl <;> rfl
theorem lnC_set (A : Option Addr) (n c s : Nat) (up : Nat → Bool) (r : Bool) (j : Nat) (h : j < 4) (b : Bool) : (lnC A n c s up r).setIfInBounds (2 + j) (.bool b) = lnC A n c s (fun i => if i = j then b else up i) r := by
  have : j = 0 ∨ j = 1 ∨ j = 2 ∨ j = 3 := by omega
  rcases this with rfl | rfl | rfl | rfl <;> rfl
/-- The row of edges of lines, which is their own. -/
def EOwn (w : World) (A : Option Addr) (n c : Nat) (es : Nat → Iib) : Prop := n ≤ c ∧ c ≤ maxLen ∧ ERow w A n es ∧ Typed w A 129 ∧ (A = none → n = 0 ∧ c = 0)
def Good (n : Nat) (es : Nat → Iib) : Prop := n ≤ 1000 ∧ (∀ j, j < n → badE es j = 0) ∧ (∀ j, j < n → 0 ≤ (es j).b)
/-- Lines at g, s of their edges having gone by. -/
def LN (w : World) (g n : Nat) (es : Nat → Iib) (s : Nat) (r : Bool) : Prop :=
  s ≤ n ∧ ∃ A c, Blk w g 76 (lnC A n c s (fun j => upTo es s j) r) ∧ EOwn w A n c es
theorem EOwn.kp {w w' : World} {A : Option Addr} {n c : Nat} {es : Nat → Iib} {L : List Nat} (h : EOwn w A n c es) (k : Kp L w w') (hL : ∀ x ∈ L, ∃ t cs, Blk w x t cs ∧ 129 ≠ t) : EOwn w' A n c es := by
  obtain ⟨h1, h2, h3, h4, h5⟩ := h
  exact ⟨h1, h2, FRow.kp h3 k (h4.off hL), h4.kp k (h4.off hL), h5⟩
theorem EOwn.keep {w w' : World} {A : Option Addr} {n c : Nat} {es : Nat → Iib} (h : EOwn w A n c es) (k : Below w.heap.size w w') : EOwn w' A n c es :=
  h.kp (L := []) (Kp.of_below k) (fun x hx => by cases hx)
theorem LN.kp {w w' : World} {g n : Nat} {es : Nat → Iib} {s : Nat} {r : Bool} {L : List Nat} (h : LN w g n es s r) (k : Kp L w w') (hL : ∀ x ∈ L, ∃ t cs, Blk w x t cs ∧ 129 ≠ t) (hg : g ∉ L) : LN w' g n es s r := by
  obtain ⟨h1, A, c, h2, h3⟩ := h
  exact ⟨h1, A, c, h2.kp k hg, h3.kp k hL⟩
theorem LN.keep {w w' : World} {g n : Nat} {es : Nat → Iib} {s : Nat} {r : Bool} (h : LN w g n es s r) (k : Below w.heap.size w w') : LN w' g n es s r :=
  h.kp (L := []) (Kp.of_below k) (fun x hx => by cases hx) (by simp)
theorem LN.lt {w : World} {g n : Nat} {es : Nat → Iib} {s : Nat} {r : Bool} (h : LN w g n es s r) : g < w.heap.size := by
  obtain ⟨_, _, _, h2, _⟩ := h
  exact h2.lt
def NewYR (n : Nat) (es : Nat → Iib) (w : World) (e : Ending) (w' : World) : Prop :=
  ∃ g, e = .returned (.tuple #[.pointer (some ⟨g, 0, none⟩), .agg #[.int .i64 0, .int .i64 0]]) ∧ w.heap.size ≤ g ∧ LN w' g n es 0 false ∧ Below w.heap.size w w'
set_option maxHeartbeats 2000000 in
theorem lnew_yes {w : World} {A : Option Addr} {n c : Nat} {es : Nat → Iib} (hA : A = none → n = 0 ∧ c = 0) (R : ERow w A n es) (hc : n ≤ 9223372036854775807) (h : (chk es n).1 = 0) :
    Calls Tryz.prog 23 #[.slice A n c] w (NewYR n es w) := by
  have HR := Lib.hid R
  have HA := Lib.hid hA
  obtain ⟨q1, _, q3⟩ := chk_zero h
  have HC := Lib.hid q3
  clear R hA h q3
  go_enter Tryz.func23, Tryz.ntmps23
  go_wp2_with fail
  have hB0 : Below w.heap.size w (w.alloc (.cells #[.int .i64 0, .int .i64 0] 32)) := (Below.refl _ _).alloc (Nat.le_refl _) _
  have hb0 : Blk (w.alloc (.cells #[.int .i64 0, .int .i64 0] 32)) w.heap.size 32 #[.int .i64 0, .int .i64 0] := Blk.new w _ _
  refine (check_any (FRow.keep HR.out hB0) hc).mono ?_
  rw [HC.out]
  simp only [fltV]
  rintro e w1 ⟨rfl, h1⟩
  have hB1 := Lib.hid (hB0.trans (h1.mono hB0.size))
  have hb1 := Lib.hid (hb0.below h1 hb0.lt)
  have s1 := hB1.out.size
  clear hB0 hb0 h1
  go_wp2_with fail
  have hB2 := Lib.hid (hB1.out.alloc s1 (.cells #[.int .i64 0, .int .i64 0] 32))
  have hb2 := Lib.hid (hb1.out.alloc (.cells #[.int .i64 0, .int .i64 0] 32))
  have s2 := hB2.out.size
  refine (eclone_any HA.out (FRow.keep HR.out hB2.out) q1).mono ?_
  rintro e w3 ⟨A', c', rfl, e1, e2, e3, e4, e5, h3⟩
  have hB3 := Lib.hid (hB2.out.trans (h3.mono s2))
  have hb3 := hb2.out.below h3 hb2.out.lt
  have s3 := hB3.out.size
  have HE : Hid (EOwn w3 A' n c' es) := Lib.hid ⟨e1, e2, e3, e4, e5⟩
  clear e1 e2 e3 e4 e5 h3 hB1 hb1 hB2 hb2
  have c20 : w3.cell? ⟨w.heap.size, 0, none⟩ = some (.int .i64 0) := hb3.cell 0
  have c21 : w3.cell? ⟨w.heap.size, 1, none⟩ = some (.int .i64 0) := hb3.cell 1
  have f20 := hb3.frozen 0
  have f21 := hb3.frozen 1
  have hlt := hb3.lt
  have HB3 := Lib.hid hb3
  clear hb3
  go_wp2_with fail
  have hb4 := ((HB3.out.set_ 0 (.int .i64 0)).set_ 1 (.int .i64 0)).alloc (.cells (lnC A' n c' 0 (fun _ => false) false) 76)
  have f0 : ((((w3.setCell ⟨w.heap.size, 0, none⟩ (.int .i64 0)).setCell ⟨w.heap.size, 1, none⟩ (.int .i64 0)).alloc (.cells (lnC A' n c' 0 (fun _ => false) false) 76))).cell? ⟨w.heap.size, 0, none⟩ = some (.int .i64 0) := hb4.cell 0
  have f1 : ((((w3.setCell ⟨w.heap.size, 0, none⟩ (.int .i64 0)).setCell ⟨w.heap.size, 1, none⟩ (.int .i64 0)).alloc (.cells (lnC A' n c' 0 (fun _ => false) false) 76))).cell? ⟨w.heap.size, 1, none⟩ = some (.int .i64 0) := hb4.cell 1
  have kp : Kp [w.heap.size] w3 ((((w3.setCell ⟨w.heap.size, 0, none⟩ (.int .i64 0)).setCell ⟨w.heap.size, 1, none⟩ (.int .i64 0)).alloc (.cells (lnC A' n c' 0 (fun _ => false) false) 76))) :=
    (((Kp.refl _ _).setCell (.inl (by simp)) _).setCell (.inl (by simp)) _).alloc _
  have hE := HE.out.kp kp (fun x hx => by
    obtain rfl : x = w.heap.size := by simpa using hx
    exact ⟨_, _, HB3.out, by decide⟩)
  have hB := kp.onto hB3.out s3 (by simp)
  have hL : Blk ((((w3.setCell ⟨w.heap.size, 0, none⟩ (.int .i64 0)).setCell ⟨w.heap.size, 1, none⟩ (.int .i64 0)).alloc (.cells (lnC A' n c' 0 (fun _ => false) false) 76))) w3.heap.size 76 (lnC A' n c' 0 (fun _ => false) false) := Blk.new_ (by simp [World.setCell])
  show bodyPost Tryz.prog Tryz.f23 _ _ _ ((((w3.setCell ⟨w.heap.size, 0, none⟩ (.int .i64 0)).setCell ⟨w.heap.size, 1, none⟩ (.int .i64 0)).alloc (.cells (lnC A' n c' 0 (fun _ => false) false) 76)))
  generalize World.alloc _ _ = w4 at *
  refine bodyPost_ret (v := .tuple #[.pointer (some ⟨w3.heap.size, 0, none⟩), .agg #[.int .i64 0, .int .i64 0]]) (by simp [results, Tryz.results23, go_sem, f0, f1]) rfl ?_
  exact ⟨w3.heap.size, rfl, s3, ⟨Nat.zero_le _, A', c', hL, hE⟩, hB⟩
def NewNR (r : Int × Int) (w : World) (e : Ending) (w' : World) : Prop := e = .returned (.tuple #[.pointer none, .agg #[.int .i64 r.1, .int .i64 r.2]]) ∧ Below w.heap.size w w'
set_option maxHeartbeats 2000000 in
theorem lnew_no {w : World} {A : Option Addr} {n c : Nat} {es : Nat → Iib} (R : ERow w A n es) (hc : n ≤ 9223372036854775807) (h : (chk es n).1 ≠ 0) :
    Calls Tryz.prog 23 #[.slice A n c] w (NewNR (chk es n) w) := by
  have HR := Lib.hid R
  obtain ⟨⟨a, b⟩, hab⟩ : ∃ r, chk es n = r := ⟨_, rfl⟩
  rw [hab] at h ⊢
  have HC := Lib.hid hab
  have hne : (a == 0) = false := by simpa using h
  clear R h hab
  go_enter Tryz.func23, Tryz.ntmps23
  go_wp2_with fail
  have hB0 : Below w.heap.size w (w.alloc (.cells #[.int .i64 0, .int .i64 0] 32)) := (Below.refl _ _).alloc (Nat.le_refl _) _
  have hb0 : Blk (w.alloc (.cells #[.int .i64 0, .int .i64 0] 32)) w.heap.size 32 #[.int .i64 0, .int .i64 0] := Blk.new w _ _
  refine (check_any (FRow.keep HR.out hB0) hc).mono ?_
  rw [HC.out]
  simp only [fltV]
  rintro e w1 ⟨rfl, h1⟩
  have hB1 := Lib.hid (hB0.trans (h1.mono hB0.size))
  have hb1 := Lib.hid (hb0.below h1 hb0.lt)
  have s1 := hB1.out.size
  clear hB0 hb0 h1
  go_wp2_with fail
  have hB2 := Lib.hid (hB1.out.alloc s1 (.cells #[.int .i64 a, .int .i64 b] 32))
  have hb2 := hb1.out.alloc (.cells #[.int .i64 a, .int .i64 b] 32)
  have c20 : (w1.alloc (.cells #[.int .i64 a, .int .i64 b] 32)).cell? ⟨w.heap.size, 0, none⟩ = some (.int .i64 0) := hb2.cell 0
  have c21 : (w1.alloc (.cells #[.int .i64 a, .int .i64 b] 32)).cell? ⟨w.heap.size, 1, none⟩ = some (.int .i64 0) := hb2.cell 1
  have f20 := hb2.frozen 0
  have f21 := hb2.frozen 1
  have n1 := Blk.new w1 32 #[.int .i64 a, .int .i64 b]
  have c30 : (w1.alloc (.cells #[.int .i64 a, .int .i64 b] 32)).cell? ⟨w1.heap.size, 0, none⟩ = some (.int .i64 a) := n1.cell 0
  have c31 : (w1.alloc (.cells #[.int .i64 a, .int .i64 b] 32)).cell? ⟨w1.heap.size, 1, none⟩ = some (.int .i64 b) := n1.cell 1
  have HB2 := Lib.hid hb2
  clear hb2 n1
  generalize w1.alloc _ = w2 at *
  generalize w1.heap.size = g1 at *
  go_region
  all_goals
    go_wp2_with fail
    have hb3 := HB2.out.set_ 0 (.int .i64 a)
    have hb4 := hb3.set_ 1 (.int .i64 b)
    have e0 : (w2.setCell ⟨w.heap.size, 0, none⟩ (.int .i64 a)).cell? ⟨w.heap.size, 0, none⟩ = some (.int .i64 a) := hb3.cell 0
    have f0 : ((w2.setCell ⟨w.heap.size, 0, none⟩ (.int .i64 a)).setCell ⟨w.heap.size, 1, none⟩ (.int .i64 b)).cell? ⟨w.heap.size, 0, none⟩ = some (.int .i64 a) := hb4.cell 0
    have f1 : ((w2.setCell ⟨w.heap.size, 0, none⟩ (.int .i64 a)).setCell ⟨w.heap.size, 1, none⟩ (.int .i64 b)).cell? ⟨w.heap.size, 1, none⟩ = some (.int .i64 b) := hb4.cell 1
    show bodyPost Tryz.prog Tryz.f23 _ _ _ ((w2.drew.setCell ⟨w.heap.size, 0, none⟩ (.int .i64 a)).setCell ⟨w.heap.size, 1, none⟩ (.int .i64 b))
    have hB := (hB2.out.drew.setCell (p := ⟨w.heap.size, 0, none⟩) (Nat.le_refl _) (.int .i64 a)).setCell (p := ⟨w.heap.size, 1, none⟩) (Nat.le_refl _) (.int .i64 b)
    refine bodyPost_ret (v := .tuple #[.pointer none, .agg #[.int .i64 a, .int .i64 b]]) (by simp [results, Tryz.results23, go_sem, e0, f0, f1]) rfl ?_
    exact ⟨rfl, hB⟩
end Go.Proofs.YtcnjekballnncaaGreat
namespace Go.Proofs.YtcnjekballnncaaGreat
open Go.RowKit
set_option linter.unusedVariables false
set_option linter.unusedSimpArgs false
set_option maxRecDepth 100000
def upV (es : Nat → Iib) (s j : Nat) : Bool := if j < 4 then upTo es s j else false
section
variable {w : World} {g n : Nat} {es : Nat → Iib} {s : Nat} {r : Bool}
theorem up_any (h : LN w g n es s r) (j : Nat) (hj : j ≤ 255) :
    Calls Tryz.prog 61 #[.pointer (some ⟨g, 0, none⟩), .int .u8 (j : Int)] w fun e w' => e = .returned (.bool (upV es s j)) ∧ w = w' := by
  obtain ⟨_, A, c, hb, _⟩ := h
  by_cases h4 : j < 4
  · have e : upV es s j = upTo es s j := by unfold upV; rw [if_pos h4]
    rw [e]
    clear e
    have c0 : w.cell? ⟨g, 2 + j, none⟩ = some (.bool (upTo es s j)) := by rw [hb.cell, lnC_up _ _ _ _ _ _ _ h4]
    have i0 : (0 : Int) ≤ (j : Int) := by omega
    have i4 : (j : Int) < 4 := by omega
    clear hb
    go_enter Tryz.func61, Tryz.ntmps61
    go_wp2
    go_ret
    exact ⟨rfl, rfl⟩
  · have e : upV es s j = false := by unfold upV; rw [if_neg h4]
    rw [e]
    clear e hb
    have i4 : ¬ (j : Int) < 4 := by omega
    go_enter Tryz.func61, Tryz.ntmps61
    go_wp2
    go_ret
    exact ⟨rfl, rfl⟩
theorem rose_any (h : LN w g n es s r) :
    Calls Tryz.prog 54 #[.pointer (some ⟨g, 0, none⟩)] w fun e w' => e = .returned (.bool r) ∧ w = w' := by
  obtain ⟨_, A, c, hb, _⟩ := h
  have c0 : w.cell? ⟨g, 6, none⟩ = some (.bool r) := hb.cell 6
  clear hb
  go_enter Tryz.func54, Tryz.ntmps54
  go_wp2
  go_ret
  exact ⟨rfl, rfl⟩
def LnR (v : Value) (g n : Nat) (es : Nat → Iib) (s : Nat) (r : Bool) (w : World) (e : Ending) (w' : World) : Prop := e = .returned v ∧ LN w' g n es s r ∧ Kp [g] w w'
theorem typed_off {w : World} {g : Nat} {cs : Array Value} (hb : Blk w g 76 cs) : ∀ x ∈ [g], ∃ t cs, Blk w x t cs ∧ 129 ≠ t := fun x hx => by
  obtain rfl : x = g := by simpa using hx
  exact ⟨_, _, hb, by decide⟩
theorem lntake_any (h : LN w g n es s r) :
    Calls Tryz.prog 75 #[.pointer (some ⟨g, 0, none⟩)] w (LnR (.tuple #[]) g n es s false w) := by
  obtain ⟨hs, A, c, hb, hE⟩ := h
  have c0 : w.cell? ⟨g, 6, none⟩ = some (.bool r) := hb.cell 6
  have f0 := hb.frozen 6
  have HB := Lib.hid hb
  have HE := Lib.hid hE
  clear hb hE
  go_enter Tryz.func75, Tryz.ntmps75
  go_wp2
  go_end0
  have kp : Kp [g] w (w.setCell ⟨g, 6, none⟩ (.bool false)) := (Kp.refl _ _).setCell (.inl (by simp)) _
  exact ⟨rfl, ⟨hs, A, c, HB.out.set_ 6 _, HE.out.kp kp (typed_off HB.out)⟩, kp⟩
def ECloneR (g n : Nat) (es : Nat → Iib) (s : Nat) (r : Bool) (w : World) (e : Ending) (w' : World) : Prop :=
  e = .returned (.pointer (some ⟨w.heap.size, 0, none⟩)) ∧ LN w' w.heap.size n es s r ∧ Below w.heap.size w w'
theorem lnclone_any (h : LN w g n es s r) :
    Calls Tryz.prog 38 #[.pointer (some ⟨g, 0, none⟩)] w (ECloneR g n es s r w) := by
  obtain ⟨hs, A, c, hb, hE⟩ := h
  have c0 : w.cell? ⟨g, 0, none⟩ = some (.slice A n c) := hb.cell 0
  have c1 : w.cell? ⟨g, 1, none⟩ = some (.int .i64 s) := hb.cell 1
  have c2 : w.cell? ⟨g, 2, none⟩ = some (.bool (upTo es s (0 : Nat))) := hb.cell 2
  have c3 : w.cell? ⟨g, 3, none⟩ = some (.bool (upTo es s (1 : Nat))) := hb.cell 3
  have c4 : w.cell? ⟨g, 4, none⟩ = some (.bool (upTo es s (2 : Nat))) := hb.cell 4
  have c5 : w.cell? ⟨g, 5, none⟩ = some (.bool (upTo es s (3 : Nat))) := hb.cell 5
  have c6 : w.cell? ⟨g, 6, none⟩ = some (.bool r) := hb.cell 6
  have HE := Lib.hid hE
  clear hb hE
  go_enter Tryz.func38, Tryz.ntmps38
  go_wp2
  go_ret
  have hB : Below w.heap.size w (w.alloc (.cells (lnC A n c s (fun j => upTo es s j) r) 76)) := (Below.refl _ _).alloc (Nat.le_refl _) _
  exact ⟨rfl, ⟨hs, A, c, Blk.new w 76 _, HE.out.keep hB⟩, hB⟩
def nextV (es : Nat → Iib) (n s : Nat) : Value := .tuple (if s < n then #[.int .i64 (es s).a, .bool true] else #[.int .i64 0, .bool false])
end
section
variable (w : World)
theorem up_nil (l : Int) : Calls Tryz.prog 61 #[.pointer none, .int .u8 l] w fun e w' => e = .returned (.bool false) ∧ w = w' := by
  go_enter Tryz.func61, Tryz.ntmps61
  go_wp2
  go_ret
  exact ⟨rfl, rfl⟩
theorem rose_nil : Calls Tryz.prog 54 #[.pointer none] w fun e w' => e = .returned (.bool false) ∧ w = w' := by
  go_enter Tryz.func54, Tryz.ntmps54
  go_wp2
  go_ret
  exact ⟨rfl, rfl⟩
theorem lntake_nil : Calls Tryz.prog 75 #[.pointer none] w fun e w' => e = .returned (.tuple #[]) ∧ w = w' := by
  go_enter Tryz.func75, Tryz.ntmps75
  go_wp2
  go_end0
  exact ⟨rfl, rfl⟩
theorem clone_nil : Calls Tryz.prog 38 #[.pointer none] w fun e w' => e = .returned (.pointer none) ∧ w = w' := by
  go_enter Tryz.func38, Tryz.ntmps38
  go_wp2
  go_ret
  exact ⟨rfl, rfl⟩
theorem to_nil (t : Int) : Calls Tryz.prog 59 #[.pointer none, .int .i64 t] w fun e w' => e = .returned (.tuple #[]) ∧ w = w' := by
  go_enter Tryz.func59, Tryz.ntmps59
  go_wp2_with fail
  go_step3
  go_wp2_with fail
  (try rw [Exit.noGoto_ret])
  first | go_end0 | refine bodyPost_ret (results_none rfl _ _ _) rfl ?_
  exact ⟨rfl, rfl⟩
end
end Go.Proofs.YtcnjekballnncaaGreat
