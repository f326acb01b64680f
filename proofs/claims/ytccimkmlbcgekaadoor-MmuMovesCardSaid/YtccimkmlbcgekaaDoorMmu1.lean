/-
  Pages: the pages of a mask, given in their order by a function that is ranged over.
-/
import Derived.Test.YtccimkmlbcgekaaDoorA1
import Derived.Test.YtccimkmlbcgekaaDoorG24
import Derived.Test.YtccimkmlbcgekaaDoorG25
import Derived.Test.YtccimkmlbcgekaaDoorG22
import Derived.RangeFuncNested
import Derived.RangeFuncBound
import Derived.RangeFuncCalls
import Derived.RangeFuncLeaves
import Derived.RangeFuncFrom
import Derived.Shelf.Abstract
import Derived.Shelf.RegionOpen
import Derived.OwnWalkIn
import Derived.TacticsInMore
import Derived.LoopNIn
import Derived.LoopIn
import Derived.Lib.Hide
namespace Go.Proofs.YtccimkmlbcgekaaDoor
open Go.RowKit Go.Shelf
set_option linter.unusedVariables false
set_option linter.unusedSimpArgs false
set_option maxRecDepth 100000
attribute [local go_sem] Oper.semAt_some
/-- The pages of a mask up to one, in their order. -/
def wthL (f : Nat → Bool) : Nat → List (Fin 8)
  | 0 => []
  | k + 1 => if h : k < 8 then (if f k then wthL f k ++ [⟨k, h⟩] else wthL f k) else wthL f k
theorem wthL_pre (f : Nat → Bool) (k m : Nat) (h : k ≤ m) : wthL f k <+: wthL f m := by
  induction m with
  | zero =>
    obtain rfl : k = 0 := by omega
    exact List.prefix_rfl
  | succ m ih =>
    by_cases e : k = m + 1
    · subst e; exact List.prefix_rfl
    · have := ih (by omega)
      simp only [wthL]
      split
      · split
        · exact this.trans (List.prefix_append _ _)
        · exact this
      · exact this
theorem wthL_len (f : Nat → Bool) (k : Nat) : (wthL f k).length ≤ k := by
  induction k with
  | zero => simp [wthL]
  | succ k ih =>
    simp only [wthL]
    split
    · split
      · simp; omega
      · omega
    · omega
theorem wthL_mem (f : Nat → Bool) (k : Nat) (hk : k ≤ 8) (x : Fin 8) : x ∈ wthL f k ↔ x.val < k ∧ f x.val = true := by
  induction k with
  | zero => simp [wthL]
  | succ k ih =>
    have ih := ih (by omega)
    simp only [wthL, dif_pos (show k < 8 by omega)]
    by_cases hf : f k = true
    · rw [if_pos hf, List.mem_append, ih]
      simp only [List.mem_singleton]
      constructor
      · rintro (⟨h1, h2⟩ | rfl)
        · exact ⟨by omega, h2⟩
        · exact ⟨by simp, hf⟩
      · rintro ⟨h1, h2⟩
        by_cases e : x.val = k
        · exact .inr (Fin.ext e)
        · exact .inl ⟨by omega, h2⟩
    · rw [if_neg hf, ih]
      constructor
      · rintro ⟨h1, h2⟩; exact ⟨by omega, h2⟩
      · rintro ⟨h1, h2⟩
        refine ⟨?_, h2⟩
        by_cases e : x.val = k
        · rw [e] at h2; exact absurd h2 hf
        · omega
/-- The cell that the iterator reads is kept. -/
def KpM (bn : Nat) (m : Int) (A B : World) : Prop := Blk A bn 5 #[.int .u8 m] → Blk B bn 5 #[.int .u8 m]
theorem blk_put {W : World} {g l : Nat} {t : TypeId} {cs : Array Value} (h : Blk W g t cs) {o o' : Obj} (ho : W.heap[l]? = some o) (hc : o.isCells = false) : Blk (W.putObj l o') g t cs :=
  h.grown (grownBy_putObj' W l o') fun e => by
    cases e
    have h' : W.heap[g]? = some (Obj.cells cs t (0, 0)) := h
    rw [h'] at ho
    cases ho
    exact absurd hc (by simp [Obj.isCells])
theorem blk_own {W W' : World} {g : Nat} {t : TypeId} {cs : Array Value} {row : Option Nat} (h : Blk W g t cs) (hg : W.grownBy W' row) (hr : ∀ r, row = some r → ∃ o : Obj, W.heap[r]? = some o ∧ o.isCells = false) : Blk W' g t cs :=
  h.grown hg fun e => by
    obtain ⟨o, ho, hc⟩ := hr g e.symm
    have h' : W.heap[g]? = some (Obj.cells cs t (0, 0)) := h
    rw [h'] at ho
    cases ho
    exact absurd hc (by simp [Obj.isCells])
set_option maxHeartbeats 4000000 in
theorem wth_stops (n : Nat) (hn : 2 ≤ n) (bn : Nat) (m : Int) (w : World) (hb : Blk w bn 5 #[.int .u8 m]) :
    SeqStopsK Fence.wide n Tryd.prog 60 #[.pointer (some ⟨bn, 0, none⟩)] (fun x : Fin 8 => #[.int .i64 (x.val : Int)]) (KpM bn m) (fun xs => xs = wthL (fun i => bitB m i) 8) (fun pre => pre <+: wthL (fun i => bitB m i) 8) 8 w := fun l J Jx W hW hJ hJx hY h0 => by
  have hb2 := Lib.hid (hb.below hW hb.lt)
  clear hb hW
  obtain ⟨f, hf⟩ : ∃ f : Nat → Bool, (fun i : Nat => bitB m (i : Int)) = f := ⟨_, rfl⟩
  rw [hf]
  have HF := Lib.hid hf
  clear hf
  refine callsIn_of_wp Tryd.func60 rfl trivial ?_ rfl
  simp only [Tryd.ntmps60, List.size_toArray, List.length_cons, List.length_nil, Nat.reduceAdd, Nat.reduceSub, Array.replicate_succ, Array.replicate_zero, List.push_toArray, List.append_toArray, List.nil_append, List.cons_append]
  gi_wp2
  gi_loopw [4] (fun i wr => ∃ k : Nat, k ≤ 8 ∧ i = .int .i64 k ∧ J (wthL f k) wr ∧ Blk wr bn 5 #[.int .u8 m]) (fun i wr => 8 - (intOf i).toNat)
  case atStart =>
    exact ⟨0, by omega, rfl, h0, hb2.out⟩
  case round =>
    obtain ⟨k, hk, rfl, hJs, hB⟩ := hrel
    by_cases hlt : k < 8
    · obtain ⟨fn, tmps, assign, body, hy, hR⟩ := hY (wthL f k) ⟨k, hlt⟩ wr hJs (Nat.lt_of_le_of_lt (wthL_len f k) hlt)
      dsimp only at hy
      have i0 : (k : Int) < 8 := by omega
      have i1 : (0 : Int) ≤ (k : Int) := by omega
      have c0 : wr.cell? ⟨bn, 0, none⟩ = some (.int .u8 m) := hB.cell 0
      have HB := Lib.hid hB
      obtain ⟨x, hx⟩ : ∃ x, f k = x := ⟨_, rfl⟩
      have e : wthL f (k + 1) = if x = true then wthL f k ++ [⟨k, hlt⟩] else wthL f k := by
        simp only [wthL]; rw [dif_pos hlt, hx]
      have HX := Lib.hid e
      have hbit := bit_any m (k : Int) wr
      rw [show bitB m (k : Int) = f k from congrFun HF.out k, hx] at hbit
      have HBIT := Lib.hid hbit
      clear hx e hB hbit hb2
      cases x with
      | false =>
        gi_wp2
        refine ⟨trivial, ?_⟩
        gi_wp2
        refine ⟨fun _ => by omega, (callsIn_wide.2 HBIT.out).mono ?_⟩
        rintro e w' ⟨rfl, rfl⟩
        gi_wp2
        refine ⟨fun _ h => (by cases h), ?_⟩
        gi_wp2
        go_roundw
        case rel => exact ⟨k + 1, by omega, by go_num, by rw [HX.out]; exact hJs, HB.out⟩
        case measure => simp [intOf]; omega
      | true =>
        gi_wp2
        refine ⟨trivial, ?_⟩
        gi_wp2
        refine ⟨fun _ => by omega, (callsIn_wide.2 HBIT.out).mono ?_⟩
        rintro e w' ⟨rfl, rfl⟩
        gi_wp2
        refine ⟨fun _ => by omega, hR.mono ?_⟩
        rintro e W3 (⟨rfl, hJ3, hK3⟩ | ⟨rfl, hJx3⟩)
        · gi_wp2
          go_roundw
          case rel => exact ⟨k + 1, by omega, by go_num, by rw [HX.out]; exact hJ3, hK3 HB.out⟩
          case measure => simp [intOf]; omega
        · gi_wp2
          refine bodyPost_ret (results_none rfl _ _ _) rfl ?_
          refine ⟨⟨_, rfl⟩, .inr ⟨_, ?_, hJx3⟩⟩
          have := wthL_pre f (k + 1) 8 (by omega)
          rw [HX.out, if_pos (by simp)] at this
          exact this
    · obtain rfl : k = 8 := by omega
      have i0 : ¬ ((8 : Nat) : Int) < 8 := by omega
      gi_wp2
      go_end0
      first | exact ⟨⟨_, rfl⟩, .inl ⟨_, rfl, hJs⟩⟩ | exact ⟨⟨_, rfl⟩, .inl hJs⟩
end Go.Proofs.YtccimkmlbcgekaaDoor
