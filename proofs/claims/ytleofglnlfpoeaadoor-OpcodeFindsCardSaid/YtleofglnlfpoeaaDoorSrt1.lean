/-
  slices.Sort of a short row of bytes (twelve at most): the library's own text, walked at this program.
-/
import Derived.Test.YtleofglnlfpoeaaDoorSh5
import Derived.Sort.WalkA
import Derived.Sort.OwnSorted
import Derived.Lib.OwnBridge
import Derived.Lib.Hide
import Derived.Handy
namespace Go.Proofs.YtleofglnlfpoeaaDoor
open Go.RowKit Go.Sort
set_option linter.unusedVariables false
set_option linter.unusedSimpArgs false
set_option maxRecDepth 100000
abbrev u8E : Int → Value := Value.int .u8
theorem isNaN_u8 (x : Int) (w : World) : Calls Tryd.prog 127 #[.int .u8 x] w fun e w' => e = .returned (.bool false) ∧ w' = w := by
  go_enter Tryd.func127, Tryd.ntmps127
  go_wp2
  go_ret
  exact ⟨by simp, rfl⟩
theorem less_u8 (x y : Int) (w : World) : Calls Tryd.prog 104 #[.int .u8 x, .int .u8 y] w fun e w' => e = .returned (.bool (Sort.ltInt x y)) ∧ w' = w := by
  go_enter Tryd.func104, Tryd.ntmps104
  go_wp2_with (go_at_call 127; refine (isNaN_u8 _ _).mono ?_; rintro e w' ⟨rfl, rfl⟩)
  go_ret
  exact ⟨rfl, rfl⟩
set_option maxHeartbeats 4000000 in
theorem insSort_u8 (blk off cap b : Nat) (d : Array Int) (w : World) (hH : Holds u8E w blk off d) (hb : b ≤ d.size) (hsz : d.size < 4611686018427387904) :
    Calls Tryd.prog 98 #[.slice (some ⟨blk, off, none⟩) d.size cap, .int .i64 0, .int .i64 b] w fun e w' =>
      e = .returned (.tuple #[]) ∧ ∃ n, w' = putRow u8E (Sort.ahead w n) blk off (Sort.insertionSort ltInt d 0 b) := by
  go_enter Tryd.func98, Tryd.ntmps98
  go_wp2
  go_loopw [6] (fun vi wr => ∃ (i n : Nat) (dk : Array Int), vi = .int .i64 i ∧ 0 < i ∧ i ≤ b + 1 ∧ dk.size = d.size ∧ wr = putRow u8E (Sort.ahead w n) blk off dk ∧
      insOuter ltInt 0 b i dk = insOuter ltInt 0 b (0 + 1) d) (fun vi _ => b + 1 - (intOf vi).toNat)
  case atStart => exact ⟨1, 0, d, by first | rfl | go_num, by omega, by omega, rfl, (putRow_self _ _ _ _ _ hH).symm, rfl⟩
  case round =>
    obtain ⟨i, n, dk, rfl, h0i, hib, hsk, hwr, hO⟩ := hrel
    have HO : Hid (insOuter ltInt 0 b i dk = insOuter ltInt 0 b (0 + 1) d) := hO
    clear hO
    go_wp2
    · go_loopw [7] (fun vj wr2 => ∃ (j m : Nat) (dj : Array Int), vj = .int .i64 j ∧ 0 ≤ j ∧ j ≤ i ∧ dj.size = d.size ∧ wr2 = putRow u8E (Sort.ahead w m) blk off dj ∧
          insInner ltInt 0 j dj = insInner ltInt 0 i dk) (fun vj _ => (intOf vj).toNat)
      case atStart => exact ⟨i, n, dk, rfl, by omega, Nat.le_refl _, hsk, by first | rfl | exact hwr, rfl⟩
      case round =>
        obtain ⟨j, m, dj, rfl, _, hji, hsj, hw2, hI⟩ := hrel
        have hlt : i < b := by omega
        obtain ⟨G, hG⟩ : ∃ G : Nat → Int, ∀ t, G t = dj[t]! := ⟨fun t => dj[t]!, fun _ => rfl⟩
        have hcw : ∀ t, t < d.size → wr.cell? ⟨blk, off + t, none⟩ = some (.int .u8 (G t)) := fun t ht => by
          rw [hw2, hG]; exact cell?_putRow _ _ _ _ d dj (holds_ahead _ _ _ _ _ _ hH) hsj t (by omega)
        have hfw : ∀ t, t < d.size → wr.frozen? ⟨blk, off + t, none⟩ = false := fun t ht => by
          rw [hw2, frozen?_putRow]; exact ((holds_ahead _ _ m _ _ _ hH) t ht).2
        have HW : Hid (wr = putRow u8E (Sort.ahead w m) blk off dj) := hw2
        have HG : Hid (∀ t, G t = dj[t]!) := hG
        have HI : Hid (insInner ltInt 0 j dj = insInner ltInt 0 i dk) := hI
        clear hw2 hG hI hH
        have out : (j ≤ 0 ∨ ltInt dj[j]! dj[j - 1]! = false) → ∀ q, ∃ i' n' dk', Value.int .i64 ((i : Int) + 1) = .int .i64 (i' : Nat) ∧ 0 < i' ∧ i' ≤ b + 1 ∧ dk'.size = d.size ∧
            wr.drewN q = putRow u8E (Sort.ahead w n') blk off dk' ∧ insOuter ltInt 0 b i' dk' = insOuter ltInt 0 b (0 + 1) d := fun hs q =>
          ⟨i + 1, m + q, dj, by go_num, by omega, by omega, hsj, by rw [HW.out]; exact putRow_drewN _ _ _ _ _ _ _,
            by rw [← HO.out, insOuter_go _ _ _ _ _ hlt, ← HI.out, insInner_stop _ _ _ _ hs]⟩
        have OUT : Hid _ := out
        clear out
        go_wp2
        by_cases hja : 0 < j
        · go_quiet (first | (go_at_call 104; refine Calls.quiet_of_same (less_u8 _ _ _)))
          go_wp2
          · have hl : ltInt (G j) (G (j - 1)) = true := by assumption
            go_region
            all_goals go_wp2
            go_roundw
            case rel =>
              refine ⟨j - 1, m + (nq + 1), swp dj j (j - 1), by congr 1; omega, by omega, by omega, by rw [size_swp]; exact hsj, ?_, ?_⟩
              · rw [HW.out, HG.out, HG.out]
                exact swap_worldA _ w m (nq + 1) blk off dj j (j - 1) (by omega) (by omega)
              · rw [← HI.out, insInner_go ltInt 0 j dj hja (by rw [← HG.out, ← HG.out]; exact hl)]
            case measure => simp [intOf]; omega
          · have hl : ltInt (G j) (G (j - 1)) = false := by assumption
            go_roundw
            case rel => exact OUT.out (Or.inr (by rw [← HG.out, ← HG.out]; exact hl)) nq
            case measure => simp [intOf]; omega
        · go_quiet (first | (go_at_call 104; refine Calls.quiet_of_same (less_u8 _ _ _)))
          go_wp2
          go_roundw
          case rel => exact OUT.out (Or.inl (by omega)) nq
          case measure => simp [intOf]; omega
    · have hge : ¬ i < b := by omega
      go_end0
      exact ⟨rfl, n, by unfold Sort.insertionSort; rw [← HO.out, insOuter_stop _ _ _ _ _ hge]⟩
set_option maxHeartbeats 4000000 in
theorem pdq_u8 (blk off cap : Nat) (lim : Int) (d : Array Int) (w : World) (hH : Holds u8E w blk off d) (hd : d.size ≤ 12) :
    Calls Tryd.prog 86 #[.slice (some ⟨blk, off, none⟩) d.size cap, .int .i64 0, .int .i64 d.size, .int .i64 lim] w fun e w' =>
      e = .returned (.tuple #[]) ∧ ∃ n, w' = putRow u8E (Sort.ahead w n) blk off (Sort.insertionSort ltInt d 0 d.size) := by
  have hI := insSort_u8 blk off cap d.size d w hH (Nat.le_refl _) (by omega)
  have h12 : (d.size : Int) ≤ 12 := by omega
  clear hH hd
  go_enter Tryd.func86, Tryd.ntmps86
  go_wp2
  refine wp_loop_rounds 1 ?_
  rw [rounds_succ]
  go_wp2_with (go_at_call 98; refine hI.mono ?_; rintro e w' ⟨rfl, n, rfl⟩)
  (try simp only [Exit.inBlock, Exit.then]); refine bodyPost_ret (results_none rfl _ _ _) rfl ?_
  exact ⟨rfl, n, rfl⟩
/-- The row sorted. -/
def sortL (l : List Int) : List Int := (Sort.insertionSort ltInt l.toArray 0 l.length).toList
theorem sortL_perm (l : List Int) : (sortL l).Perm l := by
  have h := (insertionSort_holds swo_ltInt l.toArray 0 l.toArray.size (Nat.zero_le _) (Nat.le_refl _)).1
  obtain ⟨h1, _, h3⟩ := h
  unfold sortL
  simp only [List.size_toArray] at *
  have e1 : (Sort.insertionSort ltInt l.toArray 0 l.length).extract 0 l.length = Sort.insertionSort ltInt l.toArray 0 l.length := by
    rw [Array.extract_eq_self_of_le]; omega
  have e2 : l.toArray.extract 0 l.length = l.toArray := by rw [Array.extract_eq_self_of_le]; simp
  rw [e1, e2] at h3
  exact h3
theorem sortL_le (l : List Int) : (sortL l).Pairwise (· ≤ ·) := by
  have h := (insertionSort_holds swo_ltInt l.toArray 0 l.toArray.size (Nat.zero_le _) (Nat.le_refl _)).2
  have hs := (insertionSort_holds swo_ltInt l.toArray 0 l.toArray.size (Nat.zero_le _) (Nat.le_refl _)).1.1
  simp only [List.size_toArray] at h hs
  unfold sortL
  rw [List.pairwise_iff_getElem]
  intro i j hi hj hij
  simp only [Array.length_toList] at hi hj
  have := h i j (Nat.zero_le _) hij (by omega)
  rw [getElem!_pos _ j hj, getElem!_pos _ i hi] at this
  simp only [Array.getElem_toList]
  unfold ltInt at this
  exact Int.not_lt.1 (of_decide_eq_false this)
theorem grown_put {α : Type} [Inhabited α] {enc : α → Value} (w : World) (n g : Nat) (d : Array α) : w.grownBy (putRow enc (Sort.ahead w n) g 0 d) (some g) := by
  refine ⟨rfl, rfl, rfl, by simp [putRow, mapBlock, Sort.ahead], fun k hk hne => ?_⟩
  have : g ≠ k := fun e => hne (by rw [e])
  simp [putRow, mapBlock, Sort.ahead, Array.getElem?_modify, this]
set_option maxHeartbeats 4000000 in
theorem ins_none (w : World) : Calls Tryd.prog 98 #[.slice none 0 0, .int .i64 0, .int .i64 0] w fun e w' => e = .returned (.tuple #[]) ∧ w' = w := by
  go_enter Tryd.func98, Tryd.ntmps98
  go_wp2
  refine wp_loop_rounds 1 ?_
  rw [rounds_succ]
  go_wp2
  go_end0
  exact ⟨rfl, rfl⟩
set_option maxHeartbeats 4000000 in
theorem pdq_none (lim : Int) (w : World) : Calls Tryd.prog 86 #[.slice none 0 0, .int .i64 0, .int .i64 0, .int .i64 lim] w fun e w' => e = .returned (.tuple #[]) ∧ w' = w := by
  go_enter Tryd.func86, Tryd.ntmps86
  go_wp2
  refine wp_loop_rounds 1 ?_
  rw [rounds_succ]
  go_wp2_with (go_at_call 98; refine (ins_none _).mono ?_; rintro e w' ⟨rfl, rfl⟩)
  (try simp only [Exit.inBlock, Exit.then]); refine bodyPost_ret (results_none rfl _ _ _) rfl ?_
  exact ⟨rfl, rfl⟩
set_option maxHeartbeats 4000000 in
theorem sort_none (w : World) : Calls Tryd.prog 49 #[.slice none 0 0] w fun e w' => e = .returned (.tuple #[]) ∧ w' = w := by
  have hL := fun W => sh_bits_Len 0 W (by omega) (by omega)
  go_enter Tryd.func49, Tryd.ntmps49
  go_wp2_with (first
    | (go_at_call 87; refine (hL _).mono ?_; rintro e w' ⟨rfl, rfl⟩)
    | (go_at_call 86; refine (pdq_none _ _).mono ?_; rintro e w' ⟨rfl, rfl⟩))
  go_end0
  exact ⟨rfl, rfl⟩
set_option maxHeartbeats 4000000 in
theorem sort_u8 (blk cap : Nat) (l : List Int) (w : World) (hH : Holds u8E w blk 0 l.toArray) (hl : l.length ≤ 12) :
    Calls Tryd.prog 49 #[.slice (some ⟨blk, 0, none⟩) l.length cap] w fun e w' =>
      e = .returned (.tuple #[]) ∧ ∃ n, w' = putRow u8E (Sort.ahead w n) blk 0 (sortL l).toArray := by
  have hL := fun W => sh_bits_Len (l.length : Int) W (by omega) (by omega)
  have hP := fun lim => pdq_u8 blk 0 cap lim l.toArray w hH (by simpa using hl)
  rw [show l.toArray.size = l.length by simp] at hP
  have e : (sortL l).toArray = Sort.insertionSort ltInt l.toArray 0 l.length := by unfold sortL; simp
  rw [e]
  have k0 : IntKind.u64.wrap (l.length : Int) = l.length := IntWalk.u64_in _ (by omega)
  clear hH e
  go_enter Tryd.func49, Tryd.ntmps49
  go_wp2_with (first
    | (go_at_call 87; refine (hL _).mono ?_; rintro e w' ⟨rfl, rfl⟩)
    | (go_at_call 86; refine (hP _).mono ?_; rintro e w' ⟨rfl, n, rfl⟩))
  go_end0
  exact ⟨rfl, n, rfl⟩
end Go.Proofs.YtleofglnlfpoeaaDoor
