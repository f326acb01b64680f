/-
  Work memory: the first place at which two are unlike; alike.
-/
import Derived.Test.YtfhndajhlpakoaaRam4
import Derived.Deep.QuietTactic
import Derived.BigQuiet
import Derived.LoopTactic
namespace Go.Proofs.Ytfhndajhlpakoaa
open Go.RowKit
set_option linter.unusedVariables false
set_option linter.unusedSimpArgs false
set_option maxRecDepth 100000
/-- Nothing is unlike up to there; there it is, or that is the end, and then -1 is told. -/
def FirstD (a b : Nat → Int) (m : Nat) (r : Int) : Prop := (r = -1 ∧ ∀ i, i < m → a i = b i) ∨ ∃ k, k < m ∧ r = (k : Int) ∧ a k ≠ b k ∧ ∀ i, i < k → a i = b i
set_option maxHeartbeats 1000000 in
theorem differ_any (a b : Nat → Int) (w : World) :
    Calls Try.prog 53 #[.agg (arr a), .agg (arr b)] w fun e w' => (∃ r, e = .returned (.int .i64 r) ∧ FirstD a b 64 r) ∧ Below w.heap.size w w' := by
  have ha : Blk ((w.alloc (.cells (arr a) 88)).alloc (.cells (arr b) 88)) w.heap.size 88 (arr a) := (Blk.new _ _ _).alloc _
  have hb : Blk ((w.alloc (.cells (arr a) 88)).alloc (.cells (arr b) 88)) (w.heap.size + 1) 88 (arr b) := Blk.new_ (by simp)
  have hB : Below w.heap.size w ((w.alloc (.cells (arr a) 88)).alloc (.cells (arr b) 88)) := ((Below.refl _ _).alloc (Nat.le_refl _) _).alloc (by simp) _
  have ca : ∀ i, i < 64 → ((w.alloc (.cells (arr a) 88)).alloc (.cells (arr b) 88)).cell? ⟨w.heap.size, i, none⟩ = some (.int .u8 (a i)) := fun i hi => by rw [ha.cell i]; exact arr_at a i hi
  have cb : ∀ i, i < 64 → ((w.alloc (.cells (arr a) 88)).alloc (.cells (arr b) 88)).cell? ⟨w.heap.size + 1, i, none⟩ = some (.int .u8 (b i)) := fun i hi => by rw [hb.cell i]; exact arr_at b i hi
  have HCA := Lib.hid ca
  have HCB := Lib.hid cb
  have HBB := Lib.hid hB
  have hsz := arr_size
  clear ha hb hB ca cb
  go_enter Try.func53, Try.ntmps53
  go_wp2_with fail
  generalize ((w.alloc (.cells (arr a) 88)).alloc (.cells (arr b) 88)) = w2 at *
  generalize w.heap.size + 1 = g2 at *
  clear hsz
  go_loopw [6] (fun i wr => ∃ k : Nat, k ≤ 64 ∧ i = .int .i64 k ∧ (∀ j, j < k → a j = b j) ∧ ∃ nq, wr = w2.drewN nq) (fun i _ => 64 - (intOf i).toNat)
  case atStart => exact ⟨0, by omega, rfl, fun j hj => absurd hj (by omega), 0, rfl⟩
  case round =>
    obtain ⟨k, hk, rfl, he, nq, rfl⟩ := hrel
    have HE := Lib.hid he
    clear he
    by_cases hlt : k < 64
    · have ca := HCA.out k hlt
      have cb := HCB.out k hlt
      have i0 : (0 : Int) ≤ (k : Int) := by omega
      have i1 : (k : Int) < 64 := by omega
      by_cases hab : a k = b k
      · have hne : (a k != b k) = false := by rw [hab]; simp
        have HAB := Lib.hid hab
        clear hab
        go_wp2_with fail
        go_quiet (fail)
        go_wp2
        go_roundw
        case rel => exact ⟨k + 1, by omega, by go_num, fun j hj => (Nat.lt_or_eq_of_le (Nat.le_of_lt_succ hj)).elim (HE.out j) (fun e => by rw [e]; exact HAB.out), _, rfl⟩
        case measure => simp [intOf]; omega
      · have hne : (a k != b k) = true := by simpa using hab
        have HAB := Lib.hid hab
        clear hab
        go_wp2_with fail
        go_quiet (fail)
        go_wp2
        go_ret
        refine ⟨⟨_, rfl, .inr ⟨k, hlt, rfl, HAB.out, HE.out⟩⟩, ?_⟩
        first | exact below_drewN HBB.out _ | exact below_drewN (below_drewN HBB.out _) _
    · obtain rfl : k = 64 := by omega
      go_wp2
      go_ret
      exact ⟨⟨_, rfl, .inl ⟨rfl, HE.out⟩⟩, below_drewN HBB.out _⟩
/-- Two memories' bytes, block by block. -/
def RA (w : World) (v : Value) (f : Nat → Int) : Prop := (v = .pointer none ∧ f = fun _ => 0) ∨ ∃ g mb, v = .pointer (some ⟨g, 0, none⟩) ∧ RD w g mb f
theorem RA.keep {w w' : World} {v : Value} {f : Nat → Int} (h : RA w v f) (k : Below w.heap.size w w') : RA w' v f := by
  rcases h with h | ⟨g, mb, e, h⟩
  · exact .inl h
  · exact .inr ⟨g, mb, e, h.keep k⟩
theorem block_ra {w : World} {v : Value} {f : Nat → Int} (h : RA w v f) (k : Nat) (hk : k < 128) :
    Calls Try.prog 54 #[v, .int .i64 k] w fun e w' => e = .returned (.agg (bk f k)) ∧ Below w.heap.size w w' := by
  rcases h with ⟨rfl, rfl⟩ | ⟨g, mb, rfl, h⟩
  · exact block_nil k w
  · exact block_any h k hk
set_option maxHeartbeats 1000000 in
theorem other_any {w : World} {u v : Value} {a b : Nat → Int} (hu : RA w u a) (hv : RA w v b) :
    Calls Try.prog 20 #[u, v] w fun e w' => (∃ r, e = .returned (.int .i64 r) ∧ FirstD a b 8192 r) ∧ Below w.heap.size w w' := by
  have HU := Lib.hid hu
  have HV := Lib.hid hv
  clear hu hv
  go_enter Try.func20, Try.ntmps20
  go_wp2_with fail
  go_loopw [7] (fun i wr => ∃ k : Nat, k ≤ 128 ∧ i = .int .i64 k ∧ (∀ j, j < 64 * k → a j = b j) ∧ Below w.heap.size w wr) (fun i _ => 128 - (intOf i).toNat)
  case atStart => exact ⟨0, by omega, rfl, fun j hj => absurd hj (by omega), Below.refl _ _⟩
  case round =>
    obtain ⟨k, hk, rfl, he, hB⟩ := hrel
    have HE := Lib.hid he
    clear he
    by_cases hlt : k < 128
    · have i0 : (0 : Int) ≤ (k : Int) := by omega
      have i1 : (k : Int) < 128 := by omega
      go_wp2_with fail
      refine (block_ra (HU.out.keep hB) k hlt).mono ?_
      rintro e w1 ⟨rfl, h1⟩
      have hB1 := hB.trans (h1.mono hB.size)
      go_wp2_with fail
      refine (block_ra (HV.out.keep hB1) k hlt).mono ?_
      rintro e w2 ⟨rfl, h2⟩
      have hB2 := hB1.trans (h2.mono hB1.size)
      go_wp2_with fail
      refine (differ_any _ _ _).mono ?_
      rintro e w3 ⟨⟨r, rfl, hr⟩, h3⟩
      have hB3 := hB2.trans (h3.mono hB2.size)
      clear hB hB1 hB2 h1 h2 h3
      rcases hr with ⟨rfl, hr⟩ | ⟨j, hj, rfl, hne, hr⟩
      · have HR := Lib.hid hr
        clear hr
        go_wp2
        go_roundw
        case rel =>
          refine ⟨k + 1, by omega, by go_num, fun j hj => ?_, hB3⟩
          rcases Nat.lt_or_ge j (64 * k) with h | h
          · exact HE.out j h
          · have := HR.out (j - 64 * k) (by omega)
            rw [show 64 * k + (j - 64 * k) = j by omega] at this
            exact this
        case measure => simp [intOf]; omega
      · have HR := Lib.hid hr
        have HN := Lib.hid hne
        clear hr hne
        have j0 : (0 : Int) ≤ (j : Int) := by omega
        have j1 : (j : Int) < 64 := by omega
        go_wp2
        go_ret
        refine ⟨⟨_, rfl, .inr ⟨64 * k + j, by omega, by omega, HN.out, fun i hi => ?_⟩⟩, hB3⟩
        rcases Nat.lt_or_ge i (64 * k) with h | h
        · exact HE.out i h
        · have := HR.out (i - 64 * k) (by omega)
          rw [show 64 * k + (i - 64 * k) = i by omega] at this
          exact this
    · obtain rfl : k = 128 := by omega
      go_wp2
      go_ret
      exact ⟨⟨_, rfl, .inl ⟨rfl, HE.out⟩⟩, hB⟩
def SameB (r : Int) : Bool := decide (r < 0)
set_option maxHeartbeats 1000000 in
theorem rsame_any {w : World} {u v : Value} {a b : Nat → Int} (hu : RA w u a) (hv : RA w v b) :
    Calls Try.prog 22 #[u, v] w fun e w' => (∃ r, e = .returned (.bool (SameB r)) ∧ FirstD a b 8192 r) ∧ Below w.heap.size w w' := by
  have HU := Lib.hid hu
  have HV := Lib.hid hv
  clear hu hv
  go_enter Try.func22, Try.ntmps22
  go_wp2_with fail
  refine (other_any HU.out HV.out).mono ?_
  rintro e w1 ⟨⟨r, rfl, hr⟩, hB⟩
  go_wp2_with fail
  go_ret
  exact ⟨⟨r, rfl, hr⟩, hB⟩
end Go.Proofs.Ytfhndajhlpakoaa
