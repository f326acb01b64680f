/-
  Lines: Up, Rose, Take, Next, Seen, Clone, of lines that were made and of nil.
-/
import Derived.Test.YtjedlldmmnacbaaLin4
namespace Go.Proofs.Ytjedlldmmnacbaa
open Go.RowKit
set_option linter.unusedVariables false
set_option linter.unusedSimpArgs false
set_option maxRecDepth 100000
def upV (es : Nat → Iib) (s j : Nat) : Bool := if j < 4 then upTo es s j else false
section
variable {w : World} {g n : Nat} {es : Nat → Iib} {s : Nat} {r : Bool}
theorem up_any (h : LN w g n es s r) (j : Nat) (hj : j ≤ 255) :
    Calls Try.prog 23 #[.pointer (some ⟨g, 0, none⟩), .int .u8 (j : Int)] w fun e w' => e = .returned (.bool (upV es s j)) ∧ w = w' := by
  obtain ⟨_, A, c, hb, _⟩ := h
  by_cases h4 : j < 4
  · have e : upV es s j = upTo es s j := by unfold upV; rw [if_pos h4]
    rw [e]
    clear e
    have c0 : w.cell? ⟨g, 2 + j, none⟩ = some (.bool (upTo es s j)) := by rw [hb.cell, lnC_up _ _ _ _ _ _ _ h4]
    have i0 : (0 : Int) ≤ (j : Int) := by omega
    have i4 : (j : Int) < 4 := by omega
    clear hb
    go_enter Try.func23, Try.ntmps23
    go_wp2
    go_ret
    exact ⟨rfl, rfl⟩
  · have e : upV es s j = false := by unfold upV; rw [if_neg h4]
    rw [e]
    clear e hb
    have i4 : ¬ (j : Int) < 4 := by omega
    go_enter Try.func23, Try.ntmps23
    go_wp2
    go_ret
    exact ⟨rfl, rfl⟩
theorem rose_any (h : LN w g n es s r) :
    Calls Try.prog 21 #[.pointer (some ⟨g, 0, none⟩)] w fun e w' => e = .returned (.bool r) ∧ w = w' := by
  obtain ⟨_, A, c, hb, _⟩ := h
  have c0 : w.cell? ⟨g, 6, none⟩ = some (.bool r) := hb.cell 6
  clear hb
  go_enter Try.func21, Try.ntmps21
  go_wp2
  go_ret
  exact ⟨rfl, rfl⟩
theorem seen_any (h : LN w g n es s r) :
    Calls Try.prog 20 #[.pointer (some ⟨g, 0, none⟩)] w fun e w' => e = .returned (.int .i64 s) ∧ w = w' := by
  obtain ⟨_, A, c, hb, _⟩ := h
  have c0 : w.cell? ⟨g, 1, none⟩ = some (.int .i64 s) := hb.cell 1
  clear hb
  go_enter Try.func20, Try.ntmps20
  go_wp2
  go_ret
  exact ⟨rfl, rfl⟩
def LnR (v : Value) (g n : Nat) (es : Nat → Iib) (s : Nat) (r : Bool) (w : World) (e : Ending) (w' : World) : Prop := e = .returned v ∧ LN w' g n es s r ∧ Kp [g] w w'
theorem typed_off {w : World} {g : Nat} {cs : Array Value} (hb : Blk w g 71 cs) : ∀ x ∈ [g], ∃ t cs, Blk w x t cs ∧ 65 ≠ t := fun x hx => by
  obtain rfl : x = g := by simpa using hx
  exact ⟨_, _, hb, by decide⟩
theorem take_any (h : LN w g n es s r) :
    Calls Try.prog 35 #[.pointer (some ⟨g, 0, none⟩)] w (LnR (.tuple #[]) g n es s false w) := by
  obtain ⟨hs, A, c, hb, hE⟩ := h
  have c0 : w.cell? ⟨g, 6, none⟩ = some (.bool r) := hb.cell 6
  have f0 := hb.frozen 6
  have HB := Lib.hid hb
  have HE := Lib.hid hE
  clear hb hE
  go_enter Try.func35, Try.ntmps35
  go_wp2
  go_end0
  have kp : Kp [g] w (w.setCell ⟨g, 6, none⟩ (.bool false)) := (Kp.refl _ _).setCell (.inl (by simp)) _
  exact ⟨rfl, ⟨hs, A, c, HB.out.set_ 6 _, HE.out.kp kp (typed_off HB.out)⟩, kp⟩
def ECloneR (g n : Nat) (es : Nat → Iib) (s : Nat) (r : Bool) (w : World) (e : Ending) (w' : World) : Prop :=
  e = .returned (.pointer (some ⟨w.heap.size, 0, none⟩)) ∧ LN w' w.heap.size n es s r ∧ Below w.heap.size w w'
theorem clone_any (h : LN w g n es s r) :
    Calls Try.prog 18 #[.pointer (some ⟨g, 0, none⟩)] w (ECloneR g n es s r w) := by
  obtain ⟨hs, A, c, hb, hE⟩ := h
  have c0 : w.cell? ⟨g, 0, none⟩ = some (.slice A n c) := hb.cell 0
  have c1 : w.cell? ⟨g, 1, none⟩ = some (.int .i64 s) := hb.cell 1
  have c2 : w.cell? ⟨g, 2, none⟩ = some (.bool (upTo es s (0 : Nat))) := hb.cell 2
  have c3 : w.cell? ⟨g, 3, none⟩ = some (.bool (upTo es s (1 : Nat))) := hb.cell 3
  have c4 : w.cell? ⟨g, 4, none⟩ = some (.bool (upTo es s (2 : Nat))) := hb.cell 4
  have c5 : w.cell? ⟨g, 5, none⟩ = some (.bool (upTo es s (3 : Nat))) := hb.cell 5
  have c6 : w.cell? ⟨g, 6, none⟩ = some (.bool r) := hb.cell 6
  have HE := Lib.hid hE
  clear hb hE
  go_enter Try.func18, Try.ntmps18
  go_wp2
  go_ret
  have hB : Below w.heap.size w (w.alloc (.cells (lnC A n c s (fun j => upTo es s j) r) 71)) := (Below.refl _ _).alloc (Nat.le_refl _) _
  exact ⟨rfl, ⟨hs, A, c, Blk.new w 71 _, HE.out.keep hB⟩, hB⟩
def nextV (es : Nat → Iib) (n s : Nat) : Value := .tuple (if s < n then #[.int .i64 (es s).a, .bool true] else #[.int .i64 0, .bool false])
set_option maxHeartbeats 2000000 in
theorem next_any (h : LN w g n es s r) (hn : n ≤ 1000) :
    Calls Try.prog 34 #[.pointer (some ⟨g, 0, none⟩)] w (fun e w' => e = .returned (nextV es n s) ∧ Kp [] w w') := by
  obtain ⟨hs, A, c, hb, hE⟩ := h
  have c0 : w.cell? ⟨g, 0, none⟩ = some (.slice A n c) := hb.cell 0
  have c1 : w.cell? ⟨g, 1, none⟩ = some (.int .i64 s) := hb.cell 1
  clear hb
  obtain ⟨_, _, hR, _, _⟩ := hE
  by_cases hlt : s < n
  · obtain ⟨ad, rfl, hl, d0, d1, d2⟩ := ERow.cells hR s hlt
    obtain ⟨x, hx⟩ : ∃ x, (es s).a = x := ⟨_, rfl⟩
    have e : nextV es n s = .tuple #[.int .i64 x, .bool true] := by unfold nextV; rw [if_pos hlt, hx]
    rw [e]
    rw [hx] at d0
    have i0 : (0 : Int) ≤ (s : Int) := by omega
    have i1 : (s : Int) < n := by omega
    have t1 : ((s : Int) == n) = false := by simp; omega
    clear e hx hR d1 d2 hl
    go_enter Try.func34, Try.ntmps34
    go_wp2_with fail
    go_quiet (fail)
    go_wp2_with fail
    go_quiet (fail)
    go_wp2_with fail
    go_ret2
    exact ⟨rfl, by rw [World.drewN_drewN]; exact (Kp.refl _ _).drewN _⟩
  · obtain rfl : s = n := by omega
    have e : nextV es s s = .tuple #[.int .i64 0, .bool false] := by unfold nextV; rw [if_neg hlt]
    rw [e]
    clear e hR
    have t1 : ((s : Int) == s) = true := by simp
    go_enter Try.func34, Try.ntmps34
    go_wp2_with fail
    go_quiet (fail)
    go_wp2_with fail
    go_ret2
    exact ⟨rfl, (Kp.refl _ _).drewN _⟩
end
section
variable (w : World)
theorem up_nil (l : Int) : Calls Try.prog 23 #[.pointer none, .int .u8 l] w fun e w' => e = .returned (.bool false) ∧ w = w' := by
  go_enter Try.func23, Try.ntmps23
  go_wp2
  go_ret
  exact ⟨rfl, rfl⟩
theorem rose_nil : Calls Try.prog 21 #[.pointer none] w fun e w' => e = .returned (.bool false) ∧ w = w' := by
  go_enter Try.func21, Try.ntmps21
  go_wp2
  go_ret
  exact ⟨rfl, rfl⟩
theorem seen_nil : Calls Try.prog 20 #[.pointer none] w fun e w' => e = .returned (.int .i64 0) ∧ w = w' := by
  go_enter Try.func20, Try.ntmps20
  go_wp2
  go_ret
  exact ⟨rfl, rfl⟩
theorem take_nil : Calls Try.prog 35 #[.pointer none] w fun e w' => e = .returned (.tuple #[]) ∧ w = w' := by
  go_enter Try.func35, Try.ntmps35
  go_wp2
  go_end0
  exact ⟨rfl, rfl⟩
theorem clone_nil : Calls Try.prog 18 #[.pointer none] w fun e w' => e = .returned (.pointer none) ∧ w = w' := by
  go_enter Try.func18, Try.ntmps18
  go_wp2
  go_ret
  exact ⟨rfl, rfl⟩
theorem to_nil (t : Int) : Calls Try.prog 22 #[.pointer none, .int .i64 t] w fun e w' => e = .returned (.tuple #[]) ∧ w = w' := by
  go_enter Try.func22, Try.ntmps22
  go_wp2_with fail
  go_step3
  go_wp2_with fail
  (try rw [Exit.noGoto_ret])
  first | go_end0 | refine bodyPost_ret (results_none rfl _ _ _) rfl ?_
  exact ⟨rfl, rfl⟩
end
end Go.Proofs.Ytjedlldmmnacbaa
