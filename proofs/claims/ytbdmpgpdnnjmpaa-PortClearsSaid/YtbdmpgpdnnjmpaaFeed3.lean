/-
  Feeds: take, Peek, Left, Taken, Next, Clone, of a feed that was made and of nil.
-/
import Derived.Test.YtbdmpgpdnnjmpaaFeed2
import Derived.Deep.QuietTactic
import Derived.BigQuiet
import Derived.StillTailTactics
import Derived.RegionTactic
import Derived.BigRegion
namespace Go.Proofs.Ytbdmpgpdnnjmpaa
open Go.RowKit
set_option linter.unusedVariables false
def TookR (n k g cb : Nat) (z : Nat → Int) (t : Int) (w : World) (e : Ending) (w' : World) : Prop :=
  ∃ A cap, e = .returned (.slice A (n - k) cap) ∧ SliceB w' (.slice A (n - k) cap) (n - k) (fun i => z (k + i)) ∧ FD w' g cb (n - k) (fun i => z (k + i)) t ∧ Kp [cb] w w'
theorem run_eql_func (c : Array Value) (W : World) : (binOp .eql 71 (.func (.func 58) #[] c) .nilFunc).run Try.prog W = .ok (.bool false) W := by
  kernel_rfl
set_option maxRecDepth 100000 in
set_option maxHeartbeats 1000000 in
theorem take_any {w : World} {g cb n k : Nat} {z : Nat → Int} {t : Int} (h : FD w g cb n z t) (hk : k ≤ 1) :
    Calls Try.prog 54 #[.pointer (some ⟨g, 0, none⟩), .int .i64 k] w (TookR n k g cb z t w) := by
  obtain ⟨hg, v, hc, hs⟩ := h
  have c0 : w.cell? ⟨g, 0, none⟩ = some (.func (.func 58) #[] #[.pointer (some ⟨cb, 0, none⟩)]) := hg.cell 0
  have hfn := fun c W => run_eql_func c W
  have HG := Lib.hid hg
  have HC := Lib.hid hc
  have HS := Lib.hid hs
  clear hg hc hs
  go_enter Try.func54, Try.ntmps54
  go_wp2_with (go_at_call 58; refine (gives_any HC.out HS.out hk).mono ?_; rintro e w1 ⟨A, cap, rfl, h1, h2, h3⟩)
  go_ret
  have hg := HG.out
  have hne : g ∉ [cb] := by simpa using hg.ne_ HC.out (by decide)
  exact ⟨A, cap, rfl, h1, ⟨hg.kp h3 hne, _, h2, h1⟩, h3⟩
theorem took0 {n g cb : Nat} {z : Nat → Int} {t : Int} {w : World} {e : Ending} {w' : World} (h : TookR n 0 g cb z t w e w') :
    ∃ A cap, e = .returned (.slice A n cap) ∧ SliceB w' (.slice A n cap) n z ∧ FD w' g cb n z t ∧ Kp [cb] w w' := by
  obtain ⟨A, cap, h1, h2, h3, h4⟩ := h
  have e : (fun i => z (0 + i)) = z := by funext i; rw [Nat.zero_add]
  rw [e] at h2 h3
  exact ⟨A, cap, h1, h2, h3, h4⟩
theorem take0_any {w : World} {g cb n : Nat} {z : Nat → Int} {t : Int} (h : FD w g cb n z t) :
    Calls Try.prog 54 #[.pointer (some ⟨g, 0, none⟩), .int .i64 0] w fun e w' => ∃ A cap, e = .returned (.slice A n cap) ∧ SliceB w' (.slice A n cap) n z ∧ FD w' g cb n z t ∧ Kp [cb] w w' :=
  (take_any (k := 0) h (by omega)).mono fun _ _ h => took0 h
theorem take_nil (k : Int) (w : World) :
    Calls Try.prog 54 #[.pointer none, .int .i64 k] w fun e w' => e = .returned (.slice none 0 0) ∧ w = w' := by
  go_enter Try.func54, Try.ntmps54
  go_wp2
  go_ret
  exact ⟨rfl, rfl⟩
/-- The byte that comes so far behind the next one. -/
def peekI (n : Nat) (z : Nat → Int) (k : Int) : Int := if 0 ≤ k ∧ k < n then z k.toNat else 255
theorem peekI_no (n : Nat) (z : Nat → Int) (k : Int) (h : ¬ (0 ≤ k ∧ k < n)) : peekI n z k = 255 := by unfold peekI; rw [if_neg h]
theorem peekI_yes (n : Nat) (z : Nat → Int) (k : Nat) (h : k < n) : peekI n z k = z k := by unfold peekI; rw [if_pos (by omega)]; rfl
def FedR (v : Value) (g cb n : Nat) (z : Nat → Int) (t : Int) (L : List Nat) (w : World) (e : Ending) (w' : World) : Prop := e = .returned v ∧ FD w' g cb n z t ∧ Kp L w w'
set_option maxRecDepth 100000 in
set_option maxHeartbeats 1000000 in
theorem peek_any {w : World} {g cb n : Nat} {z : Nat → Int} {t k : Int} (h : FD w g cb n z t) :
    Calls Try.prog 61 #[.pointer (some ⟨g, 0, none⟩), .int .i64 k] w (FedR (.int .u8 (peekI n z k)) g cb n z t [cb] w) := by
  have H := Lib.hid h
  clear h
  by_cases h0 : k < 0
  · rw [peekI_no n z k (by omega)]
    go_enter Try.func61, Try.ntmps61
    go_wp2_with fail
    refine (take0_any H.out).mono ?_
    rintro e w1 ⟨A, cap, rfl, h1, h2, h3⟩
    have hl : n ≤ 9223372036854775807 := by obtain ⟨_, _, q, a, b, _⟩ := h1; unfold maxLen at b; omega
    have H1 := Lib.hid h1
    have HL := Lib.hid hl
    clear h1 hl
    go_wp2
    go_ret
    exact ⟨rfl, h2, h3⟩
  by_cases h1 : k < n
  · obtain ⟨j, rfl⟩ := Int.eq_ofNat_of_zero_le (by omega : 0 ≤ k)
    have hj : j < n := by omega
    rw [peekI_yes n z j hj]
    go_enter Try.func61, Try.ntmps61
    go_wp2_with fail
    refine (take0_any H.out).mono ?_
    rintro e w1 ⟨A, cap, rfl, q1, q2, q3⟩
    obtain ⟨_, _, q, a, b, R, _⟩ := q1
    cases q
    obtain ⟨ad, rfl, _, hc, _⟩ := R j hj
    have HQ := Lib.hid q2
    have HK := Lib.hid q3
    have HR := Lib.hid R
    clear q2 q3 R
    unfold maxLen at b
    go_wp2
    go_ret
    exact ⟨rfl, HQ.out, HK.out⟩
  · rw [peekI_no n z k (by omega)]
    go_enter Try.func61, Try.ntmps61
    go_wp2_with fail
    refine (take0_any H.out).mono ?_
    rintro e w1 ⟨A, cap, rfl, h1, h2, h3⟩
    have H1 := Lib.hid h1
    clear h1
    go_wp2
    go_ret
    exact ⟨rfl, h2, h3⟩
end Go.Proofs.Ytbdmpgpdnnjmpaa
