/-
  Texts of these proofs, one behind the other: Scr33.
-/
import Derived.Test.YtnhnphifhkkboaaDoorKSW21
import Derived.RangeFuncNested
import Derived.RangeFuncFrom
import Derived.OwnWalkIn
import Derived.TacticsInMore
import Derived.LoopNIn
import Derived.LoopIn
import Derived.Lib.Hide
import Derived.Shelf.Abstract
import Derived.Shelf.RegionOpen
namespace Go.Proofs.YtnhnphifhkkboaaDoor
open Go.RowKit Go.Shelf
set_option linter.unusedVariables false
set_option linter.unusedSimpArgs false
set_option maxRecDepth 100000
attribute [local go_sem] Oper.semAt_some
/-- How many rows there are, and how many bytes has each. -/
def rwCnt (n : Nat) : Nat := (n + 15) / 16
def rwN (n k : Nat) : Nat := min (16 * k + 16) n - 16 * k
def rwP (A : Option Addr) (c k : Nat) : Option Addr := if c = 16 * k then A else A.map (·.add (16 * k))
def rwX (A : Option Addr) (n c k : Nat) : Array Value := #[.int .i64 ((16 * k : Nat) : Int), .slice (rwP A c k) (rwN n k) (c - 16 * k)]
def rwL (n : Nat) : List (Fin (rwCnt n)) := List.finRange (rwCnt n)
theorem rwL_len (n : Nat) : (rwL n).length = rwCnt n := by simp [rwL]
theorem rwL_take (n k : Nat) (h : k < rwCnt n) : (rwL n).take (k + 1) = (rwL n).take k ++ [⟨k, h⟩] := by
  rw [List.take_add_one]
  congr 1
  rw [List.getElem?_eq_getElem (by rw [rwL_len]; exact h)]
  simp [rwL]
theorem rw_lt {n k : Nat} : k < rwCnt n ↔ 16 * k < n := by unfold rwCnt; omega
theorem slice_lohi (A : Option Addr) (n c lo hi : Nat) (h1 : lo ≤ hi) (h2 : hi ≤ c) (W : World) : (Instr.slice 22 (.slice A n c) (some (.int .i64 (lo : Int))) (some (.int .i64 (hi : Int))) none).run Tryd.prog W = .ok (.slice (if c = lo then A else A.map (·.add lo)) (hi - lo) (c - lo)) W := by
  have hs : (sizeOf 5).run Tryd.prog W = .ok 1 W := by kernel_rfl
  have he' : Tryd.prog.elem 22 = 5 := by kernel_rfl
  rw [run_slice_lh (P := Tryd.prog) W 22 A n c (by rw [he']; exact Tryd.underlying22) .i64 .i64 lo hi (by omega) (by omega) (by omega)]
  rw [he', hs]
  simp [Result.andThen, sliced]
theorem scrows_any (A : Option Addr) (n c : Nat) (w : World) : Calls Tryd.prog 107 #[.slice A n c] w fun e w' => e = .returned (.func (.func 130) #[] #[.pointer (some ⟨w.heap.size, 0, none⟩)]) ∧ w' = w.alloc (.cells #[.slice A n c] 22) := by
  go_enter Tryd.func107, Tryd.ntmps107
  go_wp2_with fail
  go_ret
  exact ⟨rfl, rfl⟩
/-- The box that the rows are read of is kept. -/
def KpR (tb : Nat) (A : Option Addr) (n c : Nat) (X Y : World) : Prop := Blk X tb 22 #[.slice A n c] → Blk Y tb 22 #[.slice A n c]
set_option maxHeartbeats 8000000 in
theorem rows_stops (q : Nat) (hq : 2 ≤ q) (A : Option Addr) (n c : Nat) (hnc : n ≤ c) (hn : n ≤ 1000000000000) (tb : Nat) (w : World) (hb : Blk w tb 22 #[.slice A n c]) :
    SeqStopsK Fence.wide q Tryd.prog 130 #[.pointer (some ⟨tb, 0, none⟩)] (fun x : Fin (rwCnt n) => rwX A n c x.val) (KpR tb A n c) (fun xs => xs = rwL n) (fun pre => pre <+: rwL n) (rwCnt n) w := fun l J Jx W hW hJ hJx hY h0 => by
  have hb2 := Lib.hid (hb.below hW hb.lt)
  clear hb hW
  refine callsIn_of_wp Tryd.func130 rfl trivial ?_ rfl
  simp only [Tryd.ntmps130, List.size_toArray, List.length_cons, List.length_nil, Nat.reduceAdd, Nat.reduceSub, Array.replicate_succ, Array.replicate_zero, List.push_toArray, List.append_toArray, List.nil_append, List.cons_append]
  gi_wp2
  gi_loopw [3] (fun i wr => ∃ k : Nat, k ≤ rwCnt n ∧ i = .int .i64 ((16 * k : Nat) : Int) ∧ J ((rwL n).take k) wr ∧ Blk wr tb 22 #[.slice A n c]) (fun i wr => n + 16 - (intOf i).toNat)
  case atStart => exact ⟨0, by omega, rfl, h0, hb2.out⟩
  case round =>
    obtain ⟨k, hk, rfl, hJs, hB⟩ := hrel
    have c0 : wr.cell? ⟨tb, 0, none⟩ = some (.slice A n c) := hB.cell 0
    have HB := Lib.hid hB
    clear hb2 hB
    by_cases hlt : k < rwCnt n
    · have hlen : ((rwL n).take k).length < rwCnt n := by rw [List.length_take, rwL_len]; omega
      obtain ⟨fn, tmps, assign, body, hy, hR⟩ := hY ((rwL n).take k) ⟨k, hlt⟩ wr hJs hlen
      have h16 := rw_lt.1 hlt
      have htk := Lib.hid (rwL_take n k hlt)
      have hsl := fun W => slice_lohi A n c (16 * k) (min (16 * k + 16) n) (by omega) (by omega) W
      dsimp only [rwX, rwP, rwN] at hy
      obtain ⟨f, hf⟩ : ∃ f, 16 * k = f := ⟨_, rfl⟩
      rw [hf] at hy h16 ⊢
      rw [if_neg (show ¬ c = f by omega)] at hy
      have HF := Lib.hid hf
      have HJ := Lib.hid hJs
      clear hJs hf hsl
      by_cases hm : f + 16 ≤ n
      · rw [show min (f + 16) n = f + 16 by omega] at hy
        rw [show f + 16 - f = 16 by omega] at hy
        have e1 : ((f : Int) + 16).toNat - f = 16 := by omega
        have E1 := Lib.hid e1
        clear e1
        gi_wp2
        (try rw [E1.out])
        refine ⟨fun _ => by omega, hR.mono ?_⟩
        rintro e W3 (⟨rfl, hJ3, hK3⟩ | ⟨rfl, hJx3⟩)
        · gi_wp2
          go_roundw
          case rel => exact ⟨k + 1, by omega, by rw [show ((16 * (k + 1) : Nat) : Int) = (f : Int) + 16 by have := HF.out; omega]; (try go_num), by rw [htk.out]; exact hJ3, hK3 HB.out⟩
          case measure => simp [intOf]; omega
        · gi_wp2
          refine bodyPost_ret (results_none rfl _ _ _) rfl ?_
          exact ⟨⟨_, rfl⟩, .inr ⟨_, by rw [← htk.out]; exact List.take_prefix _ _, hJx3⟩⟩
      · rw [show min (f + 16) n = n by omega] at hy
        gi_wp2
        refine ⟨fun _ => by omega, hR.mono ?_⟩
        rintro e W3 (⟨rfl, hJ3, hK3⟩ | ⟨rfl, hJx3⟩)
        · gi_wp2
          go_roundw
          case rel => exact ⟨k + 1, by omega, by rw [show ((16 * (k + 1) : Nat) : Int) = (f : Int) + 16 by have := HF.out; omega]; (try go_num), by rw [htk.out]; exact hJ3, hK3 HB.out⟩
          case measure => simp [intOf]; omega
        · gi_wp2
          refine bodyPost_ret (results_none rfl _ _ _) rfl ?_
          exact ⟨⟨_, rfl⟩, .inr ⟨_, by rw [← htk.out]; exact List.take_prefix _ _, hJx3⟩⟩
    · obtain rfl : k = rwCnt n := by omega
      have h16 : ¬ ((16 * rwCnt n : Nat) : Int) < ((n : Nat) : Int) := by have := rw_lt (n := n) (k := rwCnt n); omega
      have hJ2 : J (rwL n) wr := by rw [← List.take_of_length_le (l := rwL n) (i := rwCnt n) (by rw [rwL_len]; exact Nat.le_refl _)]; exact hJs
      have HJ := Lib.hid hJ2
      clear hJs hJ2
      gi_wp2
      go_end0
      first | exact ⟨⟨_, rfl⟩, .inl ⟨_, rfl, HJ.out⟩⟩ | exact ⟨⟨_, rfl⟩, .inl HJ.out⟩
end Go.Proofs.YtnhnphifhkkboaaDoor
