/-
  Opcode: the function that is ranged over gives all bytes that are known.
-/
import Derived.Test.YtleofglnlfpoeaaDoorOpc4
import Derived.RangeFuncFrom
import Derived.RangeFuncGives
import Derived.OwnWalkIn
import Derived.TacticsInMore
import Derived.RegionIn
import Derived.LoopNIn
import Derived.LoopIn
import Derived.Sort.LoopGhostIn
import Derived.Sort.CutIn
import Derived.Sort.QuietIn
import Derived.Shelf.RegionOpen
import Derived.Shelf.AbstractIn
namespace Go.Proofs.YtleofglnlfpoeaaDoor
open Go.RowKit Go.Shelf
set_option linter.unusedVariables false
set_option linter.unusedSimpArgs false
set_option maxRecDepth 100000
attribute [local go_sem] Oper.semAt_some
/-- The bytes below k that are known. -/
def knL : Nat → List (Fin 256)
  | 0 => []
  | k + 1 => if h : k < 256 then (if opK k = true then knL k ++ [⟨k, h⟩] else knL k) else knL k
theorem knL_len : ∀ k, (knL k).length ≤ k
  | 0 => by simp [knL]
  | k + 1 => by
    have := knL_len k
    simp only [knL]
    split
    · split
      · simp; omega
      · omega
    · omega
theorem knL_pre : ∀ k m, k ≤ m → knL k <+: knL m
  | k, 0, h => by
    have : k = 0 := by omega
    subst this; exact List.prefix_refl _
  | k, m + 1, h => by
    rcases Nat.lt_or_ge k (m + 1) with h1 | h1
    · have := knL_pre k m (by omega)
      simp only [knL]
      split
      · split
        · exact this.trans (List.prefix_append _ _)
        · exact this
      · exact this
    · have : k = m + 1 := by omega
      rw [this]; exact List.prefix_refl _
theorem grown_of_below {w w' : World} (h : Below w.heap.size w w') : w.grownBy w' none := by
  exact ⟨h.os, h.tape, h.output, h.size, fun k hk _ => h.block k hk⟩
set_option maxHeartbeats 4000000 in
theorem known_stops (n : Nat) (hn : 1 ≤ n) (w : World) :
    SeqStopsK Fence.wide n Tryd.prog 85 #[] (fun x : Fin 256 => #[.int .u8 (x.val : Int), opV x.val]) (fun _ _ => True) (fun xs => xs = knL 256) (fun pre => pre <+: knL 256) 256 w := fun l J Jx W hW hJ hJx hY h0 => by
  refine callsIn_of_wp Tryd.func85 rfl trivial ?_ rfl
  simp only [Tryd.ntmps85, List.size_toArray, List.length_cons, List.length_nil, Nat.reduceAdd, Nat.reduceSub, Array.replicate_succ, Array.replicate_zero, List.push_toArray, List.append_toArray, List.nil_append, List.cons_append]
  gi_wp2
  gi_loopw [4] (fun i wr => ∃ k : Nat, k ≤ 256 ∧ i = .int .i64 k ∧ J (knL k) wr) (fun i wr => 256 - (intOf i).toNat)
  case atStart =>
    exact ⟨0, by omega, rfl, h0⟩
  case round =>
    obtain ⟨k, hk, rfl, hJs⟩ := hrel
    by_cases hlt : k < 256
    · have i0 : (k : Int) < 256 := by omega
      have i1 : (0 : Int) ≤ (k : Int) := by omega
      have i2 : IntKind.u8.wrap (k : Int) = k := IntWalk.u8_in _ (by omega)
      have hK := oknown_any k hlt wr
      obtain ⟨x, hx⟩ : ∃ x, opK k = x := ⟨_, rfl⟩
      rw [hx] at hK
      have e : knL (k + 1) = if x = true then knL k ++ [⟨k, hlt⟩] else knL k := by
        simp only [knL]; rw [dif_pos hlt, hx]
      have HX := Lib.hid e
      clear hx e
      cases x with
      | false =>
        gi_wp2
        refine ⟨trivial, callsIn_wide.2 ?_⟩
        refine hK.mono ?_
        rintro e w' ⟨rfl, rfl⟩
        gi_wp2
        refine ⟨trivial, ?_⟩
        gi_wp2
        refine ⟨fun _ h => (by cases h), ?_⟩
        gi_wp2
        go_roundw
        case rel => exact ⟨k + 1, by omega, by go_num, by rw [HX.out]; exact hJs⟩
        case measure => simp [intOf]; omega
      | true =>
        gi_wp2
        refine ⟨trivial, callsIn_wide.2 ?_⟩
        refine hK.mono ?_
        rintro e w' ⟨rfl, rfl⟩
        gi_wp2
        refine ⟨trivial, callsIn_wide.2 ?_⟩
        refine (oof_any k hlt _).mono ?_
        rintro e W2 ⟨rfl, b2⟩
        have hJ2 := hJ _ _ _ none hJs (grown_of_below b2) (fun r h => by cases h)
        obtain ⟨fn, tmps, assign, body, hy, hR⟩ := hY (knL k) ⟨k, hlt⟩ W2 hJ2 (Nat.lt_of_le_of_lt (knL_len k) hlt)
        dsimp only at hy
        unfold opV at hy ⊢
        gi_wp2
        refine hR.mono ?_
        rintro e W3 (⟨rfl, hJ3, _⟩ | ⟨rfl, hJx3⟩)
        · gi_wp2
          go_roundw
          case rel => exact ⟨k + 1, by omega, by go_num, by rw [HX.out]; exact hJ3⟩
          case measure => simp [intOf]; omega
        · gi_wp2
          refine bodyPost_ret (results_none rfl _ _ _) rfl ?_
          refine ⟨⟨_, rfl⟩, .inr ⟨_, ?_, hJx3⟩⟩
          have := knL_pre (k + 1) 256 (by omega)
          rw [HX.out] at this
          simpa using this
    · obtain rfl : k = 256 := by omega
      have i0 : ¬ ((256 : Nat) : Int) < 256 := by omega
      gi_wp2
      go_end0
      first | exact ⟨⟨_, rfl⟩, .inl ⟨_, rfl, hJs⟩⟩ | exact ⟨⟨_, rfl⟩, .inl hJs⟩
end Go.Proofs.YtleofglnlfpoeaaDoor
