/-
  Texts of these proofs, one behind the other: Cart1.
-/
import Derived.Test.YtdfjpdcnjjgljaaKMT20
import Derived.Test.YtdfjpdcnjjgljaaProg
import Derived.WalkKit
import Derived.WalkSpells
import Derived.Handy
import Derived.Lib.Hide
namespace Go.Proofs.Ytdfjpdcnjjgljaa
open Go.RowKit
set_option linter.unusedVariables false
def mayB (n : Int) : Bool := decide (1 ≤ n ∧ n ≤ 128)
set_option maxHeartbeats 400000 in
theorem may_any (n : Int) (w : World) :
    Calls Try.prog 18 #[.int .i64 n] w fun e w' => e = .returned (.bool (mayB n)) ∧ w = w' := by
  by_cases h : 1 ≤ n
  · by_cases h2 : n ≤ 128
    · have e : mayB n = true := decide_eq_true ⟨h, h2⟩
      have H := Lib.hid e
      clear e
      go_enter Try.func18, Try.ntmps18
      go_wp2
      go_ret
      exact ⟨by rw [H.out]; simp, rfl⟩
    · have e : mayB n = false := decide_eq_false (by omega)
      have H := Lib.hid e
      have d : decide (n ≤ 128) = false := decide_eq_false h2
      clear e h2
      go_enter Try.func18, Try.ntmps18
      go_wp2
      go_ret
      exact ⟨by rw [H.out]; simp, rfl⟩
  · have e : mayB n = false := decide_eq_false (by omega)
    have H := Lib.hid e
    have d : decide (1 ≤ n) = false := decide_eq_false h
    clear e h
    go_enter Try.func18, Try.ntmps18
    go_wp2
    go_ret
    exact ⟨by rw [H.out]; simp, rfl⟩
/-- Of so many bytes: are they an image? -/
def imgE (n : Nat) : Int := if 0 < n ∧ n % 8192 = 0 ∧ n ≤ 1048576 then 0 else 6
set_option maxHeartbeats 1000000 in
theorem within_yes (p : Pc) (S : Int) (w : World) (s0 : 0 ≤ S) (s1 : S ≤ 1099511627776) (h : good S p) (hn : p.n ≤ maxLen) :
    Calls Try.prog 19 #[.agg #[.int .i64 p.at_, .slice p.A p.n p.c], .int .i64 S] w fun e w' => e = .returned (.bool true) ∧ Below w.heap.size w w' := by
  obtain ⟨a, A, n, c, z⟩ := p
  obtain ⟨h0, h1⟩ := h
  simp only at h0 h1 hn ⊢
  unfold maxLen at hn
  go_enter Try.func19, Try.ntmps19
  go_wp2
  go_ret
  exact ⟨by simp, by go_grown⟩
set_option maxHeartbeats 1000000 in
theorem within_no (p : Pc) (S : Int) (w : World) (s0 : 0 ≤ S) (s1 : S ≤ 1099511627776) (h : ¬ good S p) (hn : p.n ≤ maxLen) (ha : p.at_ ≤ 9223372036854775807) :
    Calls Try.prog 19 #[.agg #[.int .i64 p.at_, .slice p.A p.n p.c], .int .i64 S] w fun e w' => e = .returned (.bool false) ∧ Below w.heap.size w w' := by
  obtain ⟨a, A, n, c, z⟩ := p
  unfold good at h
  simp only at h hn ha ⊢
  unfold maxLen at hn
  by_cases h0 : 0 ≤ a
  · have d : decide ((n : Int) ≤ S - a) = false := decide_eq_false (by omega)
    clear h
    go_enter Try.func19, Try.ntmps19
    go_wp2
    go_ret
    exact ⟨by simp, by go_grown⟩
  · have d : decide (0 ≤ a) = false := decide_eq_false h0
    clear h h0
    go_enter Try.func19, Try.ntmps19
    go_wp2
    go_ret
    exact ⟨by simp, by go_grown⟩
end Go.Proofs.Ytdfjpdcnjjgljaa
