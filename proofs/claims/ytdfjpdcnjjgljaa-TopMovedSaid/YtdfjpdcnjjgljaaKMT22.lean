/-
  Texts of these proofs, one behind the other: Ram2.
-/
import Derived.Test.YtdfjpdcnjjgljaaKMT21
import Derived.Test.YtdfjpdcnjjgljaaKMT08
import Derived.Test.YtdfjpdcnjjgljaaKMT10
namespace Go.Proofs.Ytdfjpdcnjjgljaa
open Go.RowKit
set_option linter.unusedVariables false
set_option linter.unusedSimpArgs false
set_option maxRecDepth 100000
theorem part_arr (z : Nat → Int) (i : Nat) (h : i < 64) (w : World) : (part 5 (arr z) (i * 1)).run Try.prog w = .ok (.int .u8 (z i)) w := by
  have hs : (sizeOf 5).run Try.prog w = .ok 1 w := by kernel_rfl
  have hv := arr_at z i h
  simp [part, isAgg, run_underlying Try.underlying5, hv]
def zB (z : Nat → Int) : Bool := (List.range 64).all fun i => z i == 0
theorem eq_u8 (d : Nat) (a b : Int) (w : World) : (Op.equalIn (d + 1) 5 (.int .u8 a) (.int .u8 b)).run Try.prog w = .ok (a == b) w := by
  simp [Op.equalIn, run_underlying Try.underlying5]
theorem eq88 (z : Nat → Int) (w : World) : (binOp .eql 47 (.agg (arr z)) (.agg (arr fun _ => 0))).run Try.prog w = .ok (.bool (zB z)) w := by
  rw [run_eql_struct]
  rw [run_equalIn_array w 9999 47 5 64 _ _ (fun i => z i == 0) Try.underlying47 (by kernel_rfl) (fun i hi => ⟨_, _, part_arr z i hi w, part_arr _ i hi w, ?_⟩)]
  · rfl
  · exact eq_u8 9998 _ _ w
theorem zB_of_nz (f : Nat → Int) (k : Nat) : zB (fun i => f (64 * k + i)) = !nz f k := by
  unfold zB nz
  rw [List.not_any_eq_all_not]
  congr 1
  funext i
  simp [bne]
/-- Memory f with a block made another one. -/
def fput (f : Nat → Int) (n : Nat) (z : Nat → Int) (i : Nat) : Int := if 64 * n ≤ i ∧ i < 64 * n + 64 then z (i - 64 * n) else f i
theorem fput_in (f : Nat → Int) (n : Nat) (z : Nat → Int) (i : Nat) (h : i < 64) : fput f n z (64 * n + i) = z i := by
  unfold fput
  rw [if_pos (by omega)]
  congr 1
  omega
theorem fput_out (f : Nat → Int) (n k : Nat) (z : Nat → Int) (i : Nat) (h : i < 64) (hk : k ≠ n) : fput f n z (64 * k + i) = f (64 * k + i) := by
  unfold fput
  rw [if_neg (by omega)]
theorem bk_in (f : Nat → Int) (n : Nat) (z : Nat → Int) : bk (fput f n z) n = arr z := arr_congr fun i hi => fput_in f n z i hi
theorem bk_out (f : Nat → Int) (n k : Nat) (z : Nat → Int) (hk : k ≠ n) : bk (fput f n z) k = bk f k := arr_congr fun i hi => fput_out f n k z i hi hk
theorem nz_in (f : Nat → Int) (n : Nat) (z : Nat → Int) : nz (fput f n z) n = !zB z := by
  unfold nz zB
  rw [List.not_all_eq_any_not]
  apply Bool.eq_iff_iff.2
  simp only [List.any_eq_true, List.mem_range]
  constructor
  · rintro ⟨i, hi, h⟩; exact ⟨i, hi, by rw [fput_in f n z i hi] at h; simpa using h⟩
  · rintro ⟨i, hi, h⟩; exact ⟨i, hi, by rw [fput_in f n z i hi]; simpa using h⟩
theorem nz_out (f : Nat → Int) (n k : Nat) (z : Nat → Int) (hk : k ≠ n) : nz (fput f n z) k = nz f k := by
  unfold nz
  apply Bool.eq_iff_iff.2
  simp only [List.any_eq_true, List.mem_range]
  constructor
  · rintro ⟨i, hi, h⟩; exact ⟨i, hi, by rw [fput_out f n k z i hi hk] at h; exact h⟩
  · rintro ⟨i, hi, h⟩; exact ⟨i, hi, by rw [fput_out f n k z i hi hk]; exact h⟩
theorem cnt_same (f g : Nat → Int) (m : Nat) (h : ∀ k, k < m → nz g k = nz f k) : cnt g m = cnt f m := by
  induction m with
  | zero => rfl
  | succ m ih => simp only [cnt]; rw [ih fun k hk => h k (by omega), h m (by omega)]
theorem cnt_put (f : Nat → Int) (n : Nat) (z : Nat → Int) (m : Nat) (hn : n < m) : cnt (fput f n z) m + (if nz f n then 1 else 0) = cnt f m + (if zB z then 0 else 1) := by
  induction m with
  | zero => omega
  | succ m ih =>
    simp only [cnt]
    by_cases h : n = m
    · subst h
      rw [cnt_same f (fput f n z) n fun k hk => nz_out f n k z (by omega), nz_in]
      cases zB z <;> simp <;> omega
    · have := ih (by omega)
      rw [nz_out f n m z (by omega)]
      omega
theorem lit_ne {k n : Nat} (h : k ≠ n) : (Lit.int .i64 (k : Int)) ≠ .int .i64 (n : Int) := fun e => by
  injection e with _ e
  omega
theorem keylit (n : Nat) : WideAt.IsKeyLit (.int .i64 (n : Int)) := by first | trivial | exact ⟨⟩ | simp [WideAt.IsKeyLit]
theorem MV.put {w : World} {b m : Nat} {D : DataW Value} {f : Nat → Int} (ho : w.ownsMap Try.prog 3 RH b m D) (h : MV D f) (n : Nat) (hn : n < 128) (z : Nat → Int) (hz : zB z = false) : MV (D.put (.int .i64 (n : Int)) (.held (.agg (arr z)))) (fput f n z) := by
  have hi := ho.isMap
  refine ⟨fun k hk => ?_, fun k hk => ?_, ?_⟩
  · by_cases e : k = n
    · subst e; rw [Maps.atKey_put_same hi (keylit k), bk_in]
    · rw [Maps.atKey_put_other (lit_ne e), h.1 k hk, bk_out _ _ _ _ e]
  · by_cases e : k = n
    · subst e; rw [Maps.has_put_same hi (keylit k), nz_in, hz]; rfl
    · rw [Maps.has_put_other (lit_ne e), h.2.1 k hk, nz_out _ _ _ _ e]
  · rw [Maps.size_put (ho.tidy keyed3), h.2.1 n hn, h.2.2]
    have := cnt_put f n z 128 hn
    rw [hz] at this
    cases hq : nz f n <;> simp [hq] at this ⊢ <;> omega
theorem MV.del {w : World} {b m : Nat} {D : DataW Value} {f : Nat → Int} (ho : w.ownsMap Try.prog 3 RH b m D) (h : MV D f) (n : Nat) (hn : n < 128) (z : Nat → Int) (hz : zB z = true) : MV (D.del (.int .i64 (n : Int))) (fput f n z) := by
  have hzz : arr z = arr fun _ => 0 := arr_congr fun i hi => by
    unfold zB at hz
    rw [List.all_eq_true] at hz
    simpa using hz i (by simpa using hi)
  refine ⟨fun k hk => ?_, fun k hk => ?_, ?_⟩
  · by_cases e : k = n
    · subst e; rw [Maps.atKey_del_same, bk_in, hzz]
    · rw [Maps.atKey_del_other (lit_ne e), h.1 k hk, bk_out _ _ _ _ e]
  · by_cases e : k = n
    · subst e; rw [Maps.has_del_same, nz_in, hz]; rfl
    · rw [Maps.has_del_other (lit_ne e), h.2.1 k hk, nz_out _ _ _ _ e]
  · have h1 := Maps.size_del (k := .int .i64 (n : Int)) (ho.tidy keyed3)
    have := cnt_put f n z 128 hn
    rw [h.2.1 n hn, h.2.2] at h1
    rw [hz] at this
    cases hq : nz f n <;> simp [hq] at this h1 ⊢ <;> omega
theorem MV.zero {f : Nat → Int} (h : ∀ i, i < 8192 → f i = 0) : MV (.map []) f := by
  have hn : ∀ k, k < 128 → nz f k = false := fun k hk => by
    unfold nz
    rw [List.any_eq_false]
    intro i hi
    rw [h _ (by simp at hi; omega)]
    simp
  refine ⟨fun k hk => ?_, fun k hk => ?_, ?_⟩
  · have e : bk f k = arr fun _ => 0 := arr_congr fun i hi => h _ (by omega)
    rw [e]
    exact Maps.atKey_of_not_has rfl _
  · rw [hn k hk]; rfl
  · have : ∀ m, m ≤ 128 → cnt f m = 0 := fun m => by
      induction m with
      | zero => intro _; rfl
      | succ m ih => intro hm; simp only [cnt]; rw [ih (by omega), hn m (by omega)]; rfl
    rw [this 128 (by omega)]
    rfl
theorem cnt_le (f : Nat → Int) (m : Nat) : cnt f m ≤ m := by
  induction m with
  | zero => exact Nat.le_refl _
  | succ m ih => simp only [cnt]; split <;> omega
/-- As many entries as it has. -/
theorem tight {w : World} {b m : Nat} {D : DataW Value} {f : Nat → Int} (ho : w.ownsMap Try.prog 3 RH b m D) (h : MV D f) : w.ownsMap Try.prog 3 RH b 128 D := by
  obtain ⟨es, clock, h1, h2, h3, h4⟩ := ho
  refine ⟨es, clock, h1, h2, ?_, h4⟩
  have hl : Maps.size D = es.size := by rw [h4, Maps.size_eq, length_read]
  have := cnt_le f 128
  rw [← hl, h.2.2]
  exact this
end Go.Proofs.Ytdfjpdcnjjgljaa
