/-
  Work memory: New, Read, Write, Blocks; of nil too.
-/
import Derived.Test.YtfhndajhlpakoaaRam3
namespace Go.Proofs.Ytfhndajhlpakoaa
open Go.RowKit
set_option linter.unusedVariables false
set_option linter.unusedSimpArgs false
set_option maxRecDepth 100000
theorem arr_set (z : Nat → Int) (i : Nat) (b : Int) : (arr z).setIfInBounds i (.int .u8 b) = arr (fun j => if j = i then b else z j) := by
  apply Array.ext_getElem?
  intro j
  rw [Array.getElem?_setIfInBounds]
  by_cases hj : j < 64
  · rw [arr_at _ j hj, arr_at _ j hj]
    by_cases h : i = j
    · subst h; rw [if_pos rfl, if_pos rfl, if_pos (by rw [arr_size]; exact hj)]
    · rw [if_neg h, if_neg (by omega)]
  · rw [Array.getElem?_eq_none (by rw [arr_size]; omega), Array.getElem?_eq_none (by rw [arr_size]; omega)]
    split <;> simp [arr_size] <;> omega
theorem Kp.behind {w w1 w2 : World} {L : List Nat} (h : Below w.heap.size w w1) (k : Kp L w1 w2) : Kp L w w2 :=
  ⟨k.os.trans h.os, k.tape.trans h.tape, k.output.trans h.output, Nat.le_trans h.size k.size, fun i hi hn => (k.block i (Nat.lt_of_lt_of_le hi h.size) hn).trans (h.block i hi)⟩
theorem rnew_any (w : World) : Calls Try.prog 24 #[] w fun e w' => e = .returned (.pointer (some ⟨w.heap.size, 0, none⟩)) ∧ RD w' w.heap.size none (fun _ => 0) ∧ Below w.heap.size w w' := by
  go_enter Try.func24, Try.ntmps24
  go_wp2
  go_ret
  exact ⟨rfl, ⟨Blk.new w _ _, fun _ _ => rfl⟩, (Below.refl _ _).alloc (Nat.le_refl _) _⟩
theorem rread_any {w : World} {g : Nat} {mb : Option Nat} {f : Nat → Int} (h : RD w g mb f) (a : Int) (a0 : 0 ≤ a) (a1 : a ≤ 65535) :
    Calls Try.prog 26 #[.pointer (some ⟨g, 0, none⟩), .int .u16 a] w fun e w' => e = .returned (.int .u8 (f (a % 8192).toNat)) ∧ Below w.heap.size w w' := by
  obtain ⟨n, hn⟩ := Int.eq_ofNat_of_zero_le (show 0 ≤ a % 8192 / 64 by omega)
  obtain ⟨i, hi⟩ := Int.eq_ofNat_of_zero_le (show 0 ≤ a % 8192 % 64 by omega)
  have hn' : n < 128 := by omega
  have hi' : i < 64 := by omega
  have e : (a % 8192).toNat = 64 * n + i := by omega
  rw [e]
  have HN := Lib.hid hn
  have HI := Lib.hid hi
  have HH := Lib.hid h
  clear hn hi h e
  have hx := fun W => run_index_agg (P := Try.prog) (t := 88) Try.underlying88 (by kernel_rfl) (cs := bk f n) (k := .i64) (i := (i : Int)) (by omega) (by omega) (arr_at _ i hi') W
  go_enter Try.func26, Try.ntmps26
  go_wp2_with fail
  refine (place_any a _ a0 a1).mono ?_
  rw [HN.out, HI.out]
  rintro e w' ⟨rfl, rfl⟩
  go_wp2_with fail
  refine (block_any HH.out n hn').mono ?_
  rintro e w1 ⟨rfl, hb⟩
  go_wp2_with fail
  go_ret
  exact ⟨rfl, hb⟩
theorem rread_nil (w : World) (a : Int) (a0 : 0 ≤ a) (a1 : a ≤ 65535) :
    Calls Try.prog 26 #[.pointer none, .int .u16 a] w fun e w' => e = .returned (.int .u8 0) ∧ Below w.heap.size w w' := by
  obtain ⟨n, hn⟩ := Int.eq_ofNat_of_zero_le (show 0 ≤ a % 8192 / 64 by omega)
  obtain ⟨i, hi⟩ := Int.eq_ofNat_of_zero_le (show 0 ≤ a % 8192 % 64 by omega)
  have hi' : i < 64 := by omega
  have HN := Lib.hid hn
  have HI := Lib.hid hi
  clear hn hi
  have hx := fun W => run_index_agg (P := Try.prog) (t := 88) Try.underlying88 (by kernel_rfl) (cs := arr fun _ => 0) (k := .i64) (i := (i : Int)) (by omega) (by omega) (arr_at _ i hi') W
  go_enter Try.func26, Try.ntmps26
  go_wp2_with fail
  refine (place_any a _ a0 a1).mono ?_
  rw [HN.out, HI.out]
  rintro e w' ⟨rfl, rfl⟩
  go_wp2_with fail
  refine (block_nil n _).mono ?_
  rintro e w1 ⟨rfl, hb⟩
  go_wp2_with fail
  go_ret
  exact ⟨rfl, hb⟩
/-- Memory with a byte written. -/
def fw (f : Nat → Int) (a b : Int) (j : Nat) : Int := if j = (a % 8192).toNat then b else f j
def WriteR (g : Nat) (mb : Option Nat) (f : Nat → Int) (w : World) (e : Ending) (w' : World) : Prop :=
  e = .returned (.tuple #[]) ∧ ∃ mb', RD w' g mb' f ∧ Kp (g :: mb.toList) w w' ∧ (mb' = mb ∨ ∃ b', mb' = some b' ∧ w.heap.size ≤ b')
set_option maxHeartbeats 1000000 in
theorem rwrite_any {w : World} {g : Nat} {mb : Option Nat} {f : Nat → Int} (h : RD w g mb f) (a b : Int) (a0 : 0 ≤ a) (a1 : a ≤ 65535) :
    Calls Try.prog 27 #[.pointer (some ⟨g, 0, none⟩), .int .u16 a, .int .u8 b] w (WriteR g mb (fw f a b) w) := by
  obtain ⟨n, hn⟩ := Int.eq_ofNat_of_zero_le (show 0 ≤ a % 8192 / 64 by omega)
  obtain ⟨i, hi⟩ := Int.eq_ofNat_of_zero_le (show 0 ≤ a % 8192 % 64 by omega)
  have hn' : n < 128 := by omega
  have hi' : i < 64 := by omega
  have e : (a % 8192).toNat = 64 * n + i := by omega
  have HE := Lib.hid e
  have HN := Lib.hid hn
  have HI := Lib.hid hi
  have HH := Lib.hid h
  clear hn hi h e
  have hz := zero88
  have hst := store_new
  have hsz := arr_size
  go_enter Try.func27, Try.ntmps27
  go_wp2_with fail
  refine (place_any a _ a0 a1).mono ?_
  rw [HN.out, HI.out]
  rintro e w' ⟨rfl, rfl⟩
  go_wp2_with fail
  refine (block_any HH.out n hn').mono ?_
  rintro e w1 ⟨rfl, hb⟩
  unfold bk
  have HS : Hid ((Try.prog.info? 88).map (·.size) = some ((arr fun j => f (64 * n + j)).setIfInBounds i (.int .u8 b)).size) := Lib.hid (by rw [Array.size_setIfInBounds, arr_size]; exact size88)
  go_wp2_with (refine wpList_load_row rfl 88 (.tmp 8) rfl w1.heap.size (by rfl) 88 ((arr fun j => f (64 * n + j)).setIfInBounds i (.int .u8 b)) (0, 0) _ (heap_alloc_new w1 _) Try.underlying88 rfl HS.out ?_)
  rw [arr_set]
  have kb : Below w1.heap.size w1 (w1.alloc (.cells (arr fun j => if j = i then b else f (64 * n + j)) 88)) := (Below.refl _ _).alloc (Nat.le_refl _) _
  have HW := (HH.out.keep hb).keep kb
  have hbs := hb.size
  refine (put_any HW n hn' _).mono ?_
  rintro e w2 ⟨rfl, mb', h1, h2, h3⟩
  have H1 := Lib.hid h1
  clear h1
  go_wp2_with fail
  go_end0
  refine ⟨rfl, mb', ⟨H1.out.1, H1.out.2.congr fun j hj => ?_⟩, Kp.behind hb (Kp.behind kb h2), ?_⟩
  · unfold fw fput
    rw [HE.out]
    by_cases h4 : 64 * n ≤ j ∧ j < 64 * n + 64
    · rw [if_pos h4]
      show _ = if j - 64 * n = i then b else f (64 * n + (j - 64 * n))
      by_cases h5 : j = 64 * n + i
      · rw [if_pos h5, if_pos (by omega)]
      · rw [if_neg h5, if_neg (by omega)]; congr 1; omega
    · rw [if_neg h4, if_neg (by omega)]
  · rcases h3 with h3 | ⟨b', h3, h4⟩
    · exact .inl h3
    · exact .inr ⟨b', h3, by simp at h4; omega⟩
theorem rwrite_nil (w : World) (a b : Int) : Calls Try.prog 27 #[.pointer none, .int .u16 a, .int .u8 b] w fun e w' => e = .returned (.tuple #[]) ∧ w = w' := by
  go_enter Try.func27, Try.ntmps27
  go_wp2
  refine bodyPost_ret (results_none rfl _ _ _) rfl ?_
  exact ⟨rfl, rfl⟩
theorem blocks_nil (w : World) : Calls Try.prog 47 #[.pointer none] w fun e w' => e = .returned (.int .i64 0) ∧ w = w' := by
  go_enter Try.func47, Try.ntmps47
  go_wp2
  go_ret
  exact ⟨rfl, rfl⟩
theorem cnt_zero {f : Nat → Int} (h : ∀ i, i < 8192 → f i = 0) : cnt f 128 = 0 := by
  have := (MV.zero h).2.2
  rw [← this]; rfl
theorem blocks_any {w : World} {g : Nat} {mb : Option Nat} {f : Nat → Int} (h : RD w g mb f) :
    Calls Try.prog 47 #[.pointer (some ⟨g, 0, none⟩)] w fun e w' => e = .returned (.int .i64 (cnt f 128)) ∧ w = w' := by
  obtain ⟨hg, hm⟩ := h
  have c0 : w.cell? ⟨g, 0, none⟩ = some (.map mb) := hg.cell 0
  clear hg
  cases mb with
  | none =>
    have e := cnt_zero hm
    rw [e]
    have hl := fun ty W => Maps.len_nil (P := Try.prog) (w := W) Try.underlying89 ty
    clear hm e
    go_enter Try.func47, Try.ntmps47
    go_wp2
    go_ret
    exact ⟨rfl, rfl⟩
  | some b =>
    obtain ⟨D, ho, h1, h2, h3⟩ := hm
    have hl := fun ty => ho.len Try.underlying89 ty
    rw [h3] at hl
    clear ho h1 h2 h3
    go_enter Try.func47, Try.ntmps47
    go_wp2
    go_ret
    exact ⟨rfl, rfl⟩
theorem rclone_nil (w : World) : Calls Try.prog 18 #[.pointer none] w fun e w' => e = .returned (.pointer none) ∧ w = w' := by
  go_enter Try.func18, Try.ntmps18
  go_wp2
  go_ret
  exact ⟨rfl, rfl⟩
end Go.Proofs.Ytfhndajhlpakoaa
