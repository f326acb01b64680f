/-
  Texts of these proofs, one behind the other: Cart0, Ram1, Ram2.
-/
import Derived.Test.YtccimkmlbcgekaaGreatKA12
import Derived.Test.YtccimkmlbcgekaaGreatKA01
import Derived.Test.YtccimkmlbcgekaaGreatKA21
import Derived.Laws.CopyOwn
import Derived.Test.YtccimkmlbcgekaaGreatProg
import Derived.WalkKit
import Derived.Test.YtccimkmlbcgekaaGreatKA02
import Derived.Test.YtccimkmlbcgekaaGreatKA03
import Derived.Deep.WholeRow
import Derived.Maps.Own
import Derived.Maps.OwnOps
import Derived.Maps.OwnSet
import Derived.Maps.Views
import Derived.Test.YtccimkmlbcgekaaGreatKA04
import Derived.Test.YtccimkmlbcgekaaGreatKA05
namespace Go.Proofs.YtccimkmlbcgekaaGreat
open Go.RowKit
set_option linter.unusedVariables false
/-- A piece lies within so many bytes. -/
def good (S : Int) (p : Pc) : Prop := 0 ≤ p.at_ ∧ (p.n : Int) ≤ S - p.at_
instance (S : Int) (p : Pc) : Decidable (good S p) := by unfold good; infer_instance
/-- The byte at a place, when k pieces have been laid. -/
def laid (ps : Nat → Pc) : Nat → Nat → Int
  | 0, _ => 0
  | k + 1, i => if (ps k).at_ ≤ i ∧ (i : Int) < (ps k).at_ + (ps k).n then (ps k).z ((i : Int) - (ps k).at_).toNat else laid ps k i
/-- Cells that are bytes. -/
def BArr (C : List Value) (S : Nat) (f : Nat → Int) : Prop := C.length = S ∧ ∀ i, i < S → C[i]? = some (.int .u8 (f i))
theorem BArr.zero (S : Nat) : BArr (List.replicate S (.int .u8 0)) S (fun _ => 0) := ⟨by simp, fun i hi => by simp [hi]⟩
theorem BArr.congr {C : List Value} {S : Nat} {f g : Nat → Int} (h : BArr C S f) (e : ∀ i, i < S → f i = g i) : BArr C S g := ⟨h.1, fun i hi => by rw [h.2 i hi, e i hi]⟩
theorem splice_at {α : Type} (L : List α) (off : Nat) (cs : List α) (h : off + cs.length ≤ L.length) (i : Nat) : (splice L off cs)[i]? = if off ≤ i ∧ i < off + cs.length then cs[i - off]? else L[i]? := by
  unfold splice
  by_cases h1 : i < off
  · rw [List.getElem?_append_left (by simp; omega), if_neg (by omega), List.getElem?_take_of_lt h1]
  · rw [List.getElem?_append_right (by simp; omega)]
    have e : (L.take off).length = off := by simp; omega
    rw [e]
    by_cases h2 : i < off + cs.length
    · rw [if_pos ⟨by omega, h2⟩, List.getElem?_append_left (by omega)]
    · rw [if_neg (by omega), List.getElem?_append_right (by omega), List.getElem?_drop]
      congr 1; omega
theorem BArr.lay {C : List Value} {S : Nat} {ps : Nat → Pc} {k : Nat} (h : BArr C S (laid ps k)) (hg : good S (ps k)) : BArr (splice C (ps k).at_.toNat (bytesOf (ps k).z (ps k).n)) S (laid ps (k + 1)) := by
  obtain ⟨g0, g1⟩ := hg
  have hl : (ps k).at_.toNat + (bytesOf (ps k).z (ps k).n).length ≤ C.length := by rw [bytesOf_len, h.1]; omega
  refine ⟨by rw [length_splice _ _ _ hl, h.1], fun i hi => ?_⟩
  rw [splice_at _ _ _ hl, bytesOf_len]
  by_cases c : (ps k).at_ ≤ i ∧ (i : Int) < (ps k).at_ + (ps k).n
  · have e1 : laid ps (k + 1) i = (ps k).z ((i : Int) - (ps k).at_).toNat := by simp only [laid]; rw [if_pos c]
    rw [if_pos (by omega), e1, bytesOf_at _ _ _ (by omega)]
    congr 3; omega
  · have e1 : laid ps (k + 1) i = laid ps k i := by simp only [laid]; rw [if_neg c]
    rw [if_neg (by omega), e1]
    exact h.2 i hi
theorem BArr.set_ {C : List Value} {S : Nat} {f : Nat → Int} (h : BArr C S f) (j : Nat) (hj : j < S) (x : Int) : BArr (C.set j (.int .u8 x)) S (fun i => if i = j then x else f i) := by
  refine ⟨by rw [List.length_set, h.1], fun i hi => ?_⟩
  rw [List.getElem?_set]
  by_cases e : j = i
  · subst e; simp [h.1, hj]
  · rw [if_neg e, h.2 i hi]; simp [show ¬ i = j from fun h => e h.symm]
/-- The bytes when j bytes of a piece have been laid. -/
def laidTo (f : Nat → Int) (p : Pc) (j : Nat) (i : Nat) : Int := if p.at_ ≤ i ∧ (i : Int) < p.at_ + j then p.z ((i : Int) - p.at_).toNat else f i
theorem laidTo_all (ps : Nat → Pc) (k : Nat) : laidTo (laid ps k) (ps k) (ps k).n = laid ps (k + 1) := rfl
theorem laidTo_zero (f : Nat → Int) (p : Pc) : laidTo f p 0 = f := by
  funext i
  unfold laidTo
  rw [if_neg (by omega)]
theorem BArr.step {C : List Value} {S : Nat} {f : Nat → Int} {p : Pc} {j off : Nat} (h : BArr C S (laidTo f p j)) (e : p.at_ = off) (hj : off + j < S) : BArr (C.set (off + j) (.int .u8 (p.z j))) S (laidTo f p (j + 1)) := by
  refine (h.set_ (off + j) hj (p.z j)).congr fun i hi => ?_
  unfold laidTo
  rw [e]
  by_cases c : i = off + j
  · subst c
    rw [if_pos rfl, if_pos (by omega)]
    congr 1; omega
  · rw [if_neg c]
    by_cases d : (off : Int) ≤ i ∧ (i : Int) < off + j
    · rw [if_pos d, if_pos (by omega)]
    · rw [if_neg d, if_neg (by omega)]
/-- The first piece that doesn't lie within. -/
theorem first_bad (S : Int) (ps : Nat → Pc) (m : Nat) : (∀ i, i < m → good S (ps i)) ∨ ∃ j, j < m ∧ ¬ good S (ps j) ∧ ∀ i, i < j → good S (ps i) := by
  induction m with
  | zero => exact Or.inl fun i hi => absurd hi (by omega)
  | succ m ih =>
    rcases ih with h | ⟨j, a, b, c⟩
    · by_cases g : good S (ps m)
      · exact Or.inl fun i hi => by
          rcases Nat.lt_or_ge i m with h1 | h1
          · exact h i h1
          · rw [show i = m by omega]; exact g
      · exact Or.inr ⟨m, by omega, g, h⟩
    · exact Or.inr ⟨j, by omega, b, c⟩
end Go.Proofs.YtccimkmlbcgekaaGreat
namespace Go.Proofs.YtccimkmlbcgekaaGreat
open Go.RowKit
set_option linter.unusedVariables false
set_option linter.unusedSimpArgs false
set_option maxRecDepth 100000
/-- 64 bytes, by value. -/
def arr (z : Nat → Int) : Array Value := (bytesOf z 64).toArray
theorem arr_size (z : Nat → Int) : (arr z).size = 64 := by simp [arr, bytesOf_len]
theorem arr_at (z : Nat → Int) (i : Nat) (h : i < 64) : (arr z)[i]? = some (.int .u8 (z i)) := by simp [arr, bytesOf_at z 64 i h]
theorem arr_one (z : Nat → Int) : (arr z).all (·.oneCell') = true := by
  rw [Array.all_eq_true]
  intro i hi
  exact bytesOf_one z 64 _ (by simp [arr] at hi ⊢)
theorem arr_congr {z z' : Nat → Int} (h : ∀ i, i < 64 → z i = z' i) : arr z = arr z' := by
  unfold arr bytesOf
  congr 1
  apply List.map_congr_left
  intro i hi
  rw [h i (by simpa using hi)]
theorem arr_inj {z z' : Nat → Int} (h : arr z = arr z') (i : Nat) (hi : i < 64) : z i = z' i := by
  have h1 := arr_at z i hi
  rw [h, arr_at z' i hi] at h1
  simpa using h1.symm
def z64 : Array Value := #[.int .u8 0, .int .u8 0, .int .u8 0, .int .u8 0, .int .u8 0, .int .u8 0, .int .u8 0, .int .u8 0, .int .u8 0, .int .u8 0, .int .u8 0, .int .u8 0, .int .u8 0, .int .u8 0, .int .u8 0, .int .u8 0, .int .u8 0, .int .u8 0, .int .u8 0, .int .u8 0, .int .u8 0, .int .u8 0, .int .u8 0, .int .u8 0, .int .u8 0, .int .u8 0, .int .u8 0, .int .u8 0, .int .u8 0, .int .u8 0, .int .u8 0, .int .u8 0, .int .u8 0, .int .u8 0, .int .u8 0, .int .u8 0, .int .u8 0, .int .u8 0, .int .u8 0, .int .u8 0, .int .u8 0, .int .u8 0, .int .u8 0, .int .u8 0, .int .u8 0, .int .u8 0, .int .u8 0, .int .u8 0, .int .u8 0, .int .u8 0, .int .u8 0, .int .u8 0, .int .u8 0, .int .u8 0, .int .u8 0, .int .u8 0, .int .u8 0, .int .u8 0, .int .u8 0, .int .u8 0, .int .u8 0, .int .u8 0, .int .u8 0, .int .u8 0]
theorem z64_arr : z64 = arr (fun _ => 0) := by kernel_rfl
theorem info88 : (Tryz.prog.info? 193).map (fun i => (i.zero, i.size)) = some (some (.agg (arr fun _ => 0)), 64) := by kernel_rfl
theorem zero88 (w : World) : (zeroValue 193).run Tryz.prog w = .ok (.agg (arr fun _ => 0)) w := (zero_of_info info88).1 w
theorem size88 : (Tryz.prog.info? 193).map (·.size) = some 64 := (zero_of_info info88).2
set_option maxHeartbeats 1000000 in
theorem place_any (a : Int) (w : World) (a0 : 0 ≤ a) (a1 : a ≤ 65535) :
    Calls Tryz.prog 102 #[.int .u16 a] w fun e w' => e = .returned (.tuple #[.int .i64 (a % 8192 / 64), .int .i64 (a % 8192 % 64)]) ∧ w = w' := by
  go_enter Tryz.func102, Tryz.ntmps102
  go_wp2
  go_ret2
  exact ⟨rfl, rfl⟩
theorem store_new (W : World) (z z' : Nat → Int) : (storeCells ⟨W.heap.size, 0, none⟩ (arr z').toList).run Tryz.prog (W.alloc (.cells (arr z) 193)) = .ok () (W.alloc (.cells (arr z') 193)) :=
  run_storeCells_new (P := Tryz.prog) W 193 (arr z) (arr z') (by rw [arr_size]; exact size88) (by rw [arr_size, arr_size]) (arr_one z')
theorem load_new (W : World) (z : Nat → Int) : (loadVar 193 ⟨W.heap.size, 0, none⟩).run Tryz.prog (W.alloc (.cells (arr z) 193)) = .ok (.agg (arr z)) (W.alloc (.cells (arr z) 193)) :=
  run_loadVar_new (P := Tryz.prog) W 193 (arr z) 64 5 Tryz.underlying193 (by rw [arr_size]; exact size88)
set_option maxHeartbeats 1000000 in
theorem block_nil (k : Int) (w : World) : Calls Tryz.prog 103 #[.pointer none, .int .i64 k] w fun e w' => e = .returned (.agg (arr fun _ => 0)) ∧ Below w.heap.size w w' := by
  have hz := zero88
  have hst := store_new
  have hsz := arr_size
  go_enter Tryz.func103, Tryz.ntmps103
  go_wp2
  refine bodyPost_ret (v := .agg (arr fun _ => 0)) (results_cell (a := ⟨w.heap.size, 0, none⟩) Tryz.results103 (by rfl) (load_new _ _)) rfl ?_
  exact ⟨rfl, (Below.refl _ _).alloc (Nat.le_refl _) _⟩
/-- Is some byte of a block not 0? How many of the first blocks have such? -/
def nz (f : Nat → Int) (k : Nat) : Bool := (List.range 64).any fun i => f (64 * k + i) != 0
def cnt (f : Nat → Int) : Nat → Nat
  | 0 => 0
  | n + 1 => cnt f n + if nz f n then 1 else 0
def bk (f : Nat → Int) (k : Nat) : Array Value := arr fun i => f (64 * k + i)
abbrev RH : Value → Option (DataW Value × List MemPlace) := fun v => some (.held v, [])
def MV (D : DataW Value) (f : Nat → Int) : Prop :=
  (∀ k : Nat, k < 128 → D.atKey (.int .i64 (k : Int)) (.held (.agg (arr fun _ => 0))) = .held (.agg (bk f k))) ∧ (∀ k : Nat, k < 128 → Maps.has D (.int .i64 (k : Int)) = nz f k) ∧ Maps.size D = cnt f 128
/-- Work memory at g has the bytes f; its blocks stand in the map at block mb. -/
def RM (w : World) (mb : Option Nat) (f : Nat → Int) : Prop := match mb with
  | none => ∀ i, i < 8192 → f i = 0
  | some b => ∃ D, w.ownsMap Tryz.prog 3 RH b 128 D ∧ MV D f
def RD (w : World) (g : Nat) (mb : Option Nat) (f : Nat → Int) : Prop := Blk w g 188 #[.map mb] ∧ RM w mb f
theorem keyed3 : Maps.Keyed Tryz.prog 3 := Maps.int_keyed Tryz.underlying3
theorem key3 (k : Nat) (h : k < 128) : keyOf Tryz.prog 3 (.int .i64 (k : Int)) = some (.int .i64 (k : Int)) := Maps.keyOf_int_mk Tryz.underlying3 (WalkArith.wf_i64 (by omega))
/-- A look-up of a block. -/
theorem look_some {w : World} {b : Nat} {D : DataW Value} {f : Nat → Int} (h : w.ownsMap Tryz.prog 3 RH b 128 D) (hv : MV D f) {k : Nat} (hk : k < 128) :
    (Instr.lookup 186 (.map (some b)) (.int .i64 (k : Int)) false).run Tryz.prog w = .ok (.agg (bk f k)) w := by
  obtain ⟨v, ps, hr, hR⟩ := h.lookup keyed3 Tryz.underlying186 (zero88 w) (zd := .held (.agg (arr fun _ => 0))) (zp := []) rfl (key3 k hk)
  rw [hv.1 k hk] at hR
  simp only [RH, Option.some.injEq, Prod.mk.injEq, DataW.held.injEq] at hR
  rw [hr, hR.1]
theorem look_none {w : World} {f : Nat → Int} (hf : ∀ i, i < 8192 → f i = 0) {k : Nat} (hk : k < 128) :
    (Instr.lookup 186 (.map none) (.int .i64 (k : Int)) false).run Tryz.prog w = .ok (.agg (bk f k)) w := by
  have h := Maps.look_nil (P := Tryz.prog) (w := w) false keyed3 Tryz.underlying186 (zero88 w) (key3 k hk)
  have e : bk f k = arr fun _ => 0 := arr_congr fun i hi => hf _ (by omega)
  rw [e]
  exact h
set_option maxHeartbeats 1000000 in
theorem block_any {w : World} {g : Nat} {mb : Option Nat} {f : Nat → Int} (h : RD w g mb f) (k : Nat) (hk : k < 128) :
    Calls Tryz.prog 103 #[.pointer (some ⟨g, 0, none⟩), .int .i64 k] w fun e w' => e = .returned (.agg (bk f k)) ∧ Below w.heap.size w w' := by
  have hz := zero88
  have hst := store_new
  have hsz := arr_size
  obtain ⟨hg, hm⟩ := h
  have hw1 := hg.alloc (.cells (arr fun _ => 0) 193)
  have c0 : (w.alloc (.cells (arr fun _ => 0) 193)).cell? ⟨g, 0, none⟩ = some (.map mb) := hw1.cell 0
  have hlk : (Instr.lookup 186 (.map mb) (.int .i64 (k : Int)) false).run Tryz.prog (w.alloc (.cells (arr fun _ => 0) 193)) = .ok (.agg (bk f k)) (w.alloc (.cells (arr fun _ => 0) 193)) := by
    cases mb with
    | none => exact look_none hm hk
    | some b => obtain ⟨D, ho, hv⟩ := hm; exact look_some (ho.alloc _) hv hk
  unfold bk at hlk
  clear hg hm hw1
  go_enter Tryz.func103, Tryz.ntmps103
  go_wp2
  refine bodyPost_ret (v := .agg (bk f k)) (results_cell (a := ⟨w.heap.size, 0, none⟩) Tryz.results103 (by rfl) (load_new _ _)) rfl ?_
  exact ⟨rfl, (Below.refl _ _).alloc (Nat.le_refl _) _⟩
end Go.Proofs.YtccimkmlbcgekaaGreat
namespace Go.Proofs.YtccimkmlbcgekaaGreat
open Go.RowKit
set_option linter.unusedVariables false
set_option linter.unusedSimpArgs false
set_option maxRecDepth 100000
theorem part_arr (z : Nat → Int) (i : Nat) (h : i < 64) (w : World) : (part 5 (arr z) (i * 1)).run Tryz.prog w = .ok (.int .u8 (z i)) w := by
  have hs : (sizeOf 5).run Tryz.prog w = .ok 1 w := by kernel_rfl
  have hv := arr_at z i h
  simp [part, isAgg, run_underlying Tryz.underlying5, hv]
def zB (z : Nat → Int) : Bool := (List.range 64).all fun i => z i == 0
theorem eq_u8 (d : Nat) (a b : Int) (w : World) : (Op.equalIn (d + 1) 5 (.int .u8 a) (.int .u8 b)).run Tryz.prog w = .ok (a == b) w := by
  simp [Op.equalIn, run_underlying Tryz.underlying5]
theorem eq88 (z : Nat → Int) (w : World) : (binOp .eql 193 (.agg (arr z)) (.agg (arr fun _ => 0))).run Tryz.prog w = .ok (.bool (zB z)) w := by
  rw [run_eql_struct]
  rw [run_equalIn_array w 9999 193 5 64 _ _ (fun i => z i == 0) Tryz.underlying193 (by kernel_rfl) (fun i hi => ⟨_, _, part_arr z i hi w, part_arr _ i hi w, ?_⟩)]
  · rfl
  · exact eq_u8 9998 _ _ w
theorem zB_of_nz (f : Nat → Int) (k : Nat) : zB (fun i => f (64 * k + i)) = !nz f k := by
  unfold zB nz
  rw [List.not_any_eq_all_not]
  congr 1
  funext i
  simp [bne]
/-- Memory f with a block made another one. -/
def fput (f : Nat → Int) (n : Nat) (z : Nat → Int) (i : Nat) : Int := if 64 * n ≤ i ∧ i < 64 * n + 64 then z (i - 64 * n) else f i
theorem fput_in (f : Nat → Int) (n : Nat) (z : Nat → Int) (i : Nat) (h : i < 64) : fput f n z (64 * n + i) = z i := by
  unfold fput
  rw [if_pos (by omega)]
  congr 1
  omega
theorem fput_out (f : Nat → Int) (n k : Nat) (z : Nat → Int) (i : Nat) (h : i < 64) (hk : k ≠ n) : fput f n z (64 * k + i) = f (64 * k + i) := by
  unfold fput
  rw [if_neg (by omega)]
theorem bk_in (f : Nat → Int) (n : Nat) (z : Nat → Int) : bk (fput f n z) n = arr z := arr_congr fun i hi => fput_in f n z i hi
theorem bk_out (f : Nat → Int) (n k : Nat) (z : Nat → Int) (hk : k ≠ n) : bk (fput f n z) k = bk f k := arr_congr fun i hi => fput_out f n k z i hi hk
theorem nz_in (f : Nat → Int) (n : Nat) (z : Nat → Int) : nz (fput f n z) n = !zB z := by
  unfold nz zB
  rw [List.not_all_eq_any_not]
  apply Bool.eq_iff_iff.2
  simp only [List.any_eq_true, List.mem_range]
  constructor
  · rintro ⟨i, hi, h⟩; exact ⟨i, hi, by rw [fput_in f n z i hi] at h; simpa using h⟩
  · rintro ⟨i, hi, h⟩; exact ⟨i, hi, by rw [fput_in f n z i hi]; simpa using h⟩
theorem nz_out (f : Nat → Int) (n k : Nat) (z : Nat → Int) (hk : k ≠ n) : nz (fput f n z) k = nz f k := by
  unfold nz
  apply Bool.eq_iff_iff.2
  simp only [List.any_eq_true, List.mem_range]
  constructor
  · rintro ⟨i, hi, h⟩; exact ⟨i, hi, by rw [fput_out f n k z i hi hk] at h; exact h⟩
  · rintro ⟨i, hi, h⟩; exact ⟨i, hi, by rw [fput_out f n k z i hi hk]; exact h⟩
theorem cnt_same (f g : Nat → Int) (m : Nat) (h : ∀ k, k < m → nz g k = nz f k) : cnt g m = cnt f m := by
  induction m with
  | zero => rfl
  | succ m ih => simp only [cnt]; rw [ih fun k hk => h k (by omega), h m (by omega)]
theorem cnt_put (f : Nat → Int) (n : Nat) (z : Nat → Int) (m : Nat) (hn : n < m) : cnt (fput f n z) m + (if nz f n then 1 else 0) = cnt f m + (if zB z then 0 else 1) := by
  induction m with
  | zero => omega
  | succ m ih =>
    simp only [cnt]
    by_cases h : n = m
    · subst h
      rw [cnt_same f (fput f n z) n fun k hk => nz_out f n k z (by omega), nz_in]
      cases zB z <;> simp <;> omega
    · have := ih (by omega)
      rw [nz_out f n m z (by omega)]
      omega
theorem lit_ne {k n : Nat} (h : k ≠ n) : (Lit.int .i64 (k : Int)) ≠ .int .i64 (n : Int) := fun e => by
  injection e with _ e
  omega
theorem keylit (n : Nat) : WideAt.IsKeyLit (.int .i64 (n : Int)) := by first | trivial | exact ⟨⟩ | simp [WideAt.IsKeyLit]
theorem MV.put {w : World} {b m : Nat} {D : DataW Value} {f : Nat → Int} (ho : w.ownsMap Tryz.prog 3 RH b m D) (h : MV D f) (n : Nat) (hn : n < 128) (z : Nat → Int) (hz : zB z = false) : MV (D.put (.int .i64 (n : Int)) (.held (.agg (arr z)))) (fput f n z) := by
  have hi := ho.isMap
  refine ⟨fun k hk => ?_, fun k hk => ?_, ?_⟩
  · by_cases e : k = n
    · subst e; rw [Maps.atKey_put_same hi (keylit k), bk_in]
    · rw [Maps.atKey_put_other (lit_ne e), h.1 k hk, bk_out _ _ _ _ e]
  · by_cases e : k = n
    · subst e; rw [Maps.has_put_same hi (keylit k), nz_in, hz]; rfl
    · rw [Maps.has_put_other (lit_ne e), h.2.1 k hk, nz_out _ _ _ _ e]
  · rw [Maps.size_put (ho.tidy keyed3), h.2.1 n hn, h.2.2]
    have := cnt_put f n z 128 hn
    rw [hz] at this
    cases hq : nz f n <;> simp [hq] at this ⊢ <;> omega
theorem MV.del {w : World} {b m : Nat} {D : DataW Value} {f : Nat → Int} (ho : w.ownsMap Tryz.prog 3 RH b m D) (h : MV D f) (n : Nat) (hn : n < 128) (z : Nat → Int) (hz : zB z = true) : MV (D.del (.int .i64 (n : Int))) (fput f n z) := by
  have hzz : arr z = arr fun _ => 0 := arr_congr fun i hi => by
    unfold zB at hz
    rw [List.all_eq_true] at hz
    simpa using hz i (by simpa using hi)
  refine ⟨fun k hk => ?_, fun k hk => ?_, ?_⟩
  · by_cases e : k = n
    · subst e; rw [Maps.atKey_del_same, bk_in, hzz]
    · rw [Maps.atKey_del_other (lit_ne e), h.1 k hk, bk_out _ _ _ _ e]
  · by_cases e : k = n
    · subst e; rw [Maps.has_del_same, nz_in, hz]; rfl
    · rw [Maps.has_del_other (lit_ne e), h.2.1 k hk, nz_out _ _ _ _ e]
  · have h1 := Maps.size_del (k := .int .i64 (n : Int)) (ho.tidy keyed3)
    have := cnt_put f n z 128 hn
    rw [h.2.1 n hn, h.2.2] at h1
    rw [hz] at this
    cases hq : nz f n <;> simp [hq] at this h1 ⊢ <;> omega
theorem MV.zero {f : Nat → Int} (h : ∀ i, i < 8192 → f i = 0) : MV (.map []) f := by
  have hn : ∀ k, k < 128 → nz f k = false := fun k hk => by
    unfold nz
    rw [List.any_eq_false]
    intro i hi
    rw [h _ (by simp at hi; omega)]
    simp
  refine ⟨fun k hk => ?_, fun k hk => ?_, ?_⟩
  · have e : bk f k = arr fun _ => 0 := arr_congr fun i hi => h _ (by omega)
    rw [e]
    exact Maps.atKey_of_not_has rfl _
  · rw [hn k hk]; rfl
  · have : ∀ m, m ≤ 128 → cnt f m = 0 := fun m => by
      induction m with
      | zero => intro _; rfl
      | succ m ih => intro hm; simp only [cnt]; rw [ih (by omega), hn m (by omega)]; rfl
    rw [this 128 (by omega)]
    rfl
theorem cnt_le (f : Nat → Int) (m : Nat) : cnt f m ≤ m := by
  induction m with
  | zero => exact Nat.le_refl _
  | succ m ih => simp only [cnt]; split <;> omega
/-- As many entries as it has. -/
theorem tight {w : World} {b m : Nat} {D : DataW Value} {f : Nat → Int} (ho : w.ownsMap Tryz.prog 3 RH b m D) (h : MV D f) : w.ownsMap Tryz.prog 3 RH b 128 D := by
  obtain ⟨es, clock, h1, h2, h3, h4⟩ := ho
  refine ⟨es, clock, h1, h2, ?_, h4⟩
  have hl : Maps.size D = es.size := by rw [h4, Maps.size_eq, length_read]
  have := cnt_le f 128
  rw [← hl, h.2.2]
  exact this
end Go.Proofs.YtccimkmlbcgekaaGreat
