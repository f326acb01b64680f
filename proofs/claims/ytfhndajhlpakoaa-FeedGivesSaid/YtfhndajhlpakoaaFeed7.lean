/-
  The reference's feed: Peek, Next, Left, Copy.
-/
import Derived.Test.YtfhndajhlpakoaaFeed6
import Derived.IntWalk
namespace Go.Proofs.Ytfhndajhlpakoaa
open Go.RowKit
set_option linter.unusedVariables false
set_option maxRecDepth 100000
def rcs (A : Option Addr) (n c : Nat) (t : Nat) : Array Value := #[.slice A n c, .int .i64 t]
def RedR (v : Value) (L : List Nat) (w : World) (e : Ending) (w' : World) : Prop := e = .returned v ∧ Kp L w w'
theorem kp_drewN (w : World) (n : Nat) : Kp [] w (w.drewN n) := (Kp.refl _ _).drewN n
section
variable {w : World} {r n c t : Nat} {A : Option Addr} {z : Nat → Int}
set_option maxHeartbeats 2000000 in
theorem rpeek_any (h : Blk w r 60 (rcs A n c t)) (R : IRow w .u8 A n z) (hn : n ≤ 140737488355328) (ht : t ≤ 1000000000) (q : Int) :
    Calls Try.prog 59 #[.pointer (some ⟨r, 0, none⟩), .int .i64 q] w (RedR (.int .u8 (peekI (n - t) (fun j => z (t + j)) q)) [] w) := by
  have c0 : w.cell? ⟨r, 0, none⟩ = some (.slice A n c) := h.cell 0
  have c1 : w.cell? ⟨r, 1, none⟩ = some (.int .i64 t) := h.cell 1
  clear h
  by_cases h0 : q < 0
  · rw [peekI_no _ _ q (by omega)]
    go_enter Try.func59, Try.ntmps59
    go_wp2_with fail
    go_quiet (fail)
    go_wp2
    go_ret
    exact ⟨rfl, kp_drewN _ _⟩
  have h0' : ¬ q < 0 := h0
  have d0 : decide (q < 0) = false := decide_eq_false h0
  by_cases h1 : q < ((n - t : Nat) : Int)
  · obtain ⟨j, rfl⟩ := Int.eq_ofNat_of_zero_le (by omega : 0 ≤ q)
    have hj : j < n - t := by omega
    rw [peekI_yes _ _ j hj]
    have h2 : ¬ ((n : Int) - t ≤ j) := by omega
    have d2 : decide ((n : Int) - t ≤ j) = false := decide_eq_false h2
    obtain ⟨ad, rfl, _, hc, _⟩ := R (t + j) (by omega)
    have i0 : (0 : Int) ≤ (t : Int) + j := by omega
    have i1 : (t : Int) + j < n := by omega
    have e1 : ((t : Int) + j).toNat = t + j := by omega
    clear R
    go_enter Try.func59, Try.ntmps59
    go_wp2_with fail
    go_quiet (fail)
    go_wp2
    have e2 : IntKind.i64.wrap ((t : Int) + j) = (t : Int) + j := IntWalk.i64_in _ (by omega)
    go_quiet (fail)
    go_wp2
    go_ret
    exact ⟨rfl, by rw [World.drewN_drewN]; exact kp_drewN _ _⟩
  · rw [peekI_no _ _ q (by omega)]
    have h2 : (n : Int) - t ≤ q := by omega
    have d2 : decide ((n : Int) - t ≤ q) = true := decide_eq_true h2
    go_enter Try.func59, Try.ntmps59
    go_wp2_with fail
    go_quiet (fail)
    go_wp2
    go_ret
    exact ⟨rfl, kp_drewN _ _⟩
def leftI (n t : Nat) : Nat := n - t
set_option maxHeartbeats 2000000 in
theorem rleft_any (h : Blk w r 60 (rcs A n c t)) (hn : n ≤ 140737488355328) (ht : t ≤ 1000000000) :
    Calls Try.prog 34 #[.pointer (some ⟨r, 0, none⟩)] w (RedR (.int .i64 (n - t : Nat)) [] w) := by
  have c0 : w.cell? ⟨r, 0, none⟩ = some (.slice A n c) := h.cell 0
  have c1 : w.cell? ⟨r, 1, none⟩ = some (.int .i64 t) := h.cell 1
  clear h
  by_cases h0 : (n : Int) < t
  · rw [show n - t = 0 by omega]
    go_enter Try.func34, Try.ntmps34
    go_wp2_with fail
    go_quiet (fail)
    go_wp2
    go_ret
    exact ⟨rfl, kp_drewN _ _⟩
  · rw [show ((n - t : Nat) : Int) = (n : Int) - t by omega]
    have h1 : ¬ (n : Int) < t := h0
    have d0 : decide ((n : Int) < t) = false := decide_eq_false h0
    have e2 : IntKind.i64.wrap ((n : Int) - t) = (n : Int) - t := IntWalk.i64_in _ (by omega)
    go_enter Try.func34, Try.ntmps34
    go_wp2_with fail
    go_quiet (fail)
    go_wp2
    go_quiet (fail)
    go_wp2
    go_ret
    exact ⟨rfl, by rw [World.drewN_drewN]; exact kp_drewN _ _⟩
set_option maxHeartbeats 2000000 in
theorem rnext_any (h : Blk w r 60 (rcs A n c t)) (R : IRow w .u8 A n z) (hn : n ≤ 140737488355328) (ht : t ≤ 1000000000) :
    Calls Try.prog 58 #[.pointer (some ⟨r, 0, none⟩)] w fun e w' => RedR (.int .u8 (peekI (n - t) (fun j => z (t + j)) 0)) [r] w e w' ∧ Blk w' r 60 (rcs A n c (t + 1)) := by
  have H := Lib.hid h
  have RH := Lib.hid R
  clear h R
  obtain ⟨b, hb⟩ : ∃ b, peekI (n - t) (fun j => z (t + j)) 0 = b := ⟨_, rfl⟩
  rw [hb]
  have HB := Lib.hid hb
  clear hb
  go_enter Try.func58, Try.ntmps58
  go_wp2_with fail
  refine (rpeek_any H.out RH.out hn ht 0).mono ?_
  rintro e w1 ⟨rfl, k1⟩
  rw [HB.out]
  have H1 := Lib.hid (H.out.kp k1 (by simp))
  have c1 : w1.cell? ⟨r, 1, none⟩ = some (.int .i64 t) := H1.out.cell 1
  have f1 : w1.frozen? ⟨r, 1, none⟩ = false := H1.out.frozen 1
  go_wp2
  go_ret
  have kp : Kp [r] w1 (w1.setCell ⟨r, 1, none⟩ (.int .i64 (t + 1))) := (Kp.refl _ _).setCell (.inl (by simp)) _
  exact ⟨⟨rfl, (k1.mono (by simp)).trans kp (by simp)⟩, H1.out.set_ 1 _⟩
set_option maxHeartbeats 2000000 in
theorem rcopy_any (h : Blk w r 60 (rcs A n c t)) :
    Calls Try.prog 32 #[.pointer (some ⟨r, 0, none⟩)] w fun e w' => e = .returned (.pointer (some ⟨w.heap.size, 0, none⟩)) ∧ Blk w' w.heap.size 60 (rcs A n c t) ∧ Below w.heap.size w w' := by
  have c0 : w.cell? ⟨r, 0, none⟩ = some (.slice A n c) := h.cell 0
  have c1 : w.cell? ⟨r, 1, none⟩ = some (.int .i64 t) := h.cell 1
  clear h
  go_enter Try.func32, Try.ntmps32
  go_wp2
  go_region
  all_goals
    go_wp2
    go_ret
    exact ⟨rfl, Blk.new w 60 _, ((Below.refl _ _).alloc (Nat.le_refl _) _).drew⟩
end
end Go.Proofs.Ytfhndajhlpakoaa
