/-
  Texts of these proofs, one behind the other: Scr16.
-/
import Derived.Test.YtnhnphifhkkboaaDoorKSW30
import Derived.RangeFuncNested
namespace Go.Proofs.YtnhnphifhkkboaaDoor
open Go.RowKit Go.Shelf
set_option linter.unusedVariables false
set_option linter.unusedSimpArgs false
set_option maxRecDepth 100000
attribute [local go_sem] Oper.semAt_some
/-- A line: its number, where it begins, and where it ends. -/
structure Rw where
  k : Nat
  a : Nat
  b : Nat
def nxP (t : ByteArray) (p : Nat) : Nat := if nlF t p < t.size then nlF t p + 1 else t.size
def rowsK (t : ByteArray) : Nat → Nat → Nat → List Rw
  | 0, _, _ => []
  | f + 1, p, k => if p < t.size then ⟨k, p, nlF t p⟩ :: rowsK t f (nxP t p) (k + 1) else []
def rowsT (t : ByteArray) : List Rw := rowsK t t.size 0 1
def rwV (t : ByteArray) (x : Rw) : Value := .agg #[.int .i64 (x.k : Int), .string (t.extract x.a x.b), .bool (decide (x.b < t.size))]
theorem nxP_bd {t : ByteArray} {p : Nat} (hp : p < t.size) : p < nxP t p ∧ nxP t p ≤ t.size := by
  have := nlF_bd (Nat.le_of_lt hp)
  unfold nxP
  split <;> omega
theorem rowsK_fuel (t : ByteArray) : ∀ (f g p k : Nat), t.size ≤ p + f → t.size ≤ p + g → rowsK t f p k = rowsK t g p k
  | 0, 0, p, k, _, _ => rfl
  | 0, g + 1, p, k, h1, h2 => by unfold rowsK; rw [if_neg (by omega)]
  | f + 1, 0, p, k, h1, h2 => by unfold rowsK; rw [if_neg (by omega)]
  | f + 1, g + 1, p, k, h1, h2 => by
    unfold rowsK
    split
    · rename_i hp
      have := nxP_bd hp
      rw [rowsK_fuel t f g (nxP t p) (k + 1) (by omega) (by omega)]
    · rfl
theorem rowsK_on {t : ByteArray} {p k : Nat} (hp : p < t.size) : rowsK t (t.size - p) p k = ⟨k, p, nlF t p⟩ :: rowsK t (t.size - nxP t p) (nxP t p) (k + 1) := by
  obtain ⟨f, hf⟩ : ∃ f, t.size - p = f + 1 := ⟨t.size - p - 1, by omega⟩
  have := nxP_bd hp
  rw [hf, rowsK, if_pos hp, rowsK_fuel t f (t.size - nxP t p) (nxP t p) (k + 1) (by omega) (by omega)]
theorem rowsK_end {t : ByteArray} {k : Nat} : rowsK t (t.size - t.size) t.size k = [] := by rw [Nat.sub_self]; rfl
theorem extract_end (t : ByteArray) : t.extract t.size t.size = ⟨#[]⟩ := by
  have h : (t.extract t.size t.size).size = 0 := by rw [ByteArray.size_extract]; omega
  revert h
  generalize t.extract t.size t.size = x
  intro h
  cases x with
  | mk d => cases d with
    | mk l => cases l with
      | nil => rfl
      | cons a l => simp [ByteArray.size] at h
theorem extract_whole (t : ByteArray) : t.extract 0 t.size = t := by
  have h : (t.extract 0 t.size).data.toList = t.data.toList := by rw [Lib.extract_data, List.drop_zero, Nat.sub_zero, List.take_of_length_le (show t.data.toList.length ≤ t.size from Nat.le_of_eq Array.length_toList)]
  have h2 : (t.extract 0 t.size).data = t.data := by rw [← Array.toList_inj]; exact h
  exact congrArg ByteArray.mk h2
theorem toList_empty (x : ByteArray) : x.toList.isEmpty = decide (x.size = 0) := by
  rw [ByteArray.toList_eq]
  have : x.data.toList.length = x.size := Array.length_toList
  cases h : x.data.toList with
  | nil => rw [h] at this; simp at this; simp [← this]
  | cons a l => rw [h] at this; simp at this; simp [← this]
theorem scsplit_any (t : ByteArray) (w : World) : Calls Tryd.prog 49 #[.string t] w fun e w' => e = .returned (.func (.func 92) #[] #[.pointer (some ⟨w.heap.size, 0, none⟩)]) ∧ w' = w.alloc (.cells #[.string t] 9) := by
  go_enter Tryd.func49, Tryd.ntmps49
  go_wp2_with fail
  go_ret
  exact ⟨rfl, rfl⟩
theorem grown_of_below_ {w w' : World} (h : Below w.heap.size w w') : w.grownBy w' none := ⟨h.os, h.tape, h.output, h.size, fun k hk _ => h.block k hk⟩
set_option maxHeartbeats 8000000 in
theorem split_stops (n : Nat) (hn : 2 ≤ n) (t : ByteArray) (ht : t.size ≤ 1000000) (tb : Nat) (w : World) (hb : Blk w tb 9 #[.string t]) :
    SeqStopsK Fence.wide n Tryd.prog 92 #[.pointer (some ⟨tb, 0, none⟩)] (fun x : Rw => #[rwV t x]) (fun _ _ => True) (fun xs => xs = rowsT t) (fun pre => pre <+: rowsT t) (rowsT t).length w := fun l J Jx W hW hJ hJx hY h0 => by
  have hb2 := hb.below hW hb.lt
  have c0 : W.cell? ⟨tb, 0, none⟩ = some (.string t) := hb2.cell 0
  clear hb hW hb2
  refine callsIn_of_wp Tryd.func92 rfl trivial ?_ rfl
  simp only [Tryd.ntmps92, List.size_toArray, List.length_cons, List.length_nil, Nat.reduceAdd, Nat.reduceSub, Array.replicate_succ, Array.replicate_zero, List.push_toArray, List.append_toArray, List.nil_append, List.cons_append]
  gi_wp2
  gi_loopw [3, 4] (fun rs i wr => ∃ (p k : Nat) (pre : List Rw), p ≤ t.size ∧ k ≤ p + 1 ∧ rs = .string (t.extract p t.size) ∧ i = .int .i64 (k : Int) ∧ pre ++ rowsK t (t.size - p) p k = rowsT t ∧ J pre wr) (fun rs i wr => t.size + 2 - (intOf i).toNat)
  case atStart =>
    refine ⟨0, 1, [], by omega, by omega, ?_, rfl, by rw [Nat.sub_zero]; rfl, h0⟩
    rw [extract_whole]
  case round =>
    obtain ⟨p, k, pre, hp, hk, rfl, rfl, hpre, hJs⟩ := hrel
    by_cases hlt : p < t.size
    · have hz : (t.extract p t.size).size = t.size - p := by rw [ByteArray.size_extract]; omega
      have hne : ((t.extract p t.size).toList.isEmpty) = false := by rw [toList_empty, hz]; exact decide_eq_false (by omega)
      have hCut := fun W => sccut_any t p (by omega) ht W
      have hb := nxP_bd hlt
      rw [rowsK_on hlt] at hpre
      have hlen : pre.length < (rowsT t).length := by rw [← hpre, List.length_append]; simp
      have hnx : (if nlF t p < t.size then t.extract (nlF t p + 1) t.size else ⟨#[]⟩) = t.extract (nxP t p) t.size := by
        unfold nxP
        split
        · rfl
        · exact (extract_end t).symm
      rw [hnx] at hCut
      obtain ⟨q, hq⟩ : ∃ q, nxP t p = q := ⟨_, rfl⟩
      obtain ⟨j, hj⟩ : ∃ j, nlF t p = j := ⟨_, rfl⟩
      rw [hq] at hb hCut hpre
      rw [hj] at hCut hpre
      have hlsz : ((t.extract p t.size).toList.isEmpty) = false := hne
      obtain ⟨r, hr⟩ : ∃ r, t.extract p t.size = r := ⟨_, rfl⟩
      rw [hr] at hne hCut ⊢
      clear hnx hz hq hj hr hlsz
      have HPRE := Lib.hid hpre
      have HJ := Lib.hid hJs
      clear hpre hJs c0
      gi_wp2
      refine ⟨trivial, fun _ => by omega, (callsIn_wide.2 (hCut _)).mono ?_⟩
      rintro e w2 ⟨rfl, b2⟩
      have hJ2 := hJ _ _ _ none HJ.out (grown_of_below_ b2) (fun r h => by cases h)
      obtain ⟨fn, tmps, assign, body, hy, hR⟩ := hY pre ⟨k, p, j⟩ w2 hJ2 hlen
      dsimp only [rwV] at hy
      clear b2 hJ2
      gi_wp2
      refine ⟨fun _ => by omega, hR.mono ?_⟩
      rintro e W3 (⟨rfl, hJ3, _⟩ | ⟨rfl, hJx3⟩)
      · gi_wp2
        go_roundw
        case rel => exact ⟨q, k + 1, pre ++ [⟨k, p, j⟩], by omega, by omega, rfl, by go_num, by rw [List.append_assoc]; exact HPRE.out, hJ3⟩
        case measure => simp [intOf]; omega
      · gi_wp2
        refine bodyPost_ret (results_none rfl _ _ _) rfl ?_
        exact ⟨⟨_, rfl⟩, .inr ⟨_, ⟨rowsK t (t.size - q) q (k + 1), by rw [List.append_assoc]; exact HPRE.out⟩, hJx3⟩⟩
    · obtain rfl : p = t.size := by omega
      rw [rowsK_end, List.append_nil] at hpre
      have he : ((t.extract t.size t.size).toList.isEmpty) = true := by rw [toList_empty, extract_end]; rfl
      obtain ⟨r, hr⟩ : ∃ r, t.extract t.size t.size = r := ⟨_, rfl⟩
      rw [hr] at he ⊢
      clear hr hlt
      have HPRE := Lib.hid hpre
      have HJ := Lib.hid hJs
      clear hpre hJs c0
      gi_wp2
      go_end0
      exact ⟨⟨_, rfl⟩, .inl ⟨_, HPRE.out, HJ.out⟩⟩
end Go.Proofs.YtnhnphifhkkboaaDoor
