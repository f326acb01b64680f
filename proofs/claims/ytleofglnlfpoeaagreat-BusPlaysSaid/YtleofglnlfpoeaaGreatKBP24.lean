/-
  Texts of these proofs, one behind the other: Cart0, Ram1, G16.
-/
import Derived.Test.YtleofglnlfpoeaaGreatKBP04
import Derived.Test.YtleofglnlfpoeaaGreatKBP01
import Derived.Test.YtleofglnlfpoeaaGreatKBP16
import Derived.Laws.CopyOwn
import Derived.Test.YtleofglnlfpoeaaGreatProg
import Derived.WalkKit
import Derived.Test.YtleofglnlfpoeaaGreatKBP03
import Derived.Test.YtleofglnlfpoeaaGreatKBP05
import Derived.Deep.WholeRow
import Derived.Maps.Own
import Derived.Maps.OwnOps
import Derived.Maps.OwnSet
import Derived.Maps.Views
import Derived.Laws.StructEq
namespace Go.Proofs.YtleofglnlfpoeaaGreat
open Go.RowKit
set_option linter.unusedVariables false
/-- A piece lies within so many bytes. -/
def good (S : Int) (p : Pc) : Prop := 0 ≤ p.at_ ∧ (p.n : Int) ≤ S - p.at_
instance (S : Int) (p : Pc) : Decidable (good S p) := by unfold good; infer_instance
/-- The byte at a place, when k pieces have been laid. -/
def laid (ps : Nat → Pc) : Nat → Nat → Int
  | 0, _ => 0
  | k + 1, i => if (ps k).at_ ≤ i ∧ (i : Int) < (ps k).at_ + (ps k).n then (ps k).z ((i : Int) - (ps k).at_).toNat else laid ps k i
/-- Cells that are bytes. -/
def BArr (C : List Value) (S : Nat) (f : Nat → Int) : Prop := C.length = S ∧ ∀ i, i < S → C[i]? = some (.int .u8 (f i))
theorem BArr.zero (S : Nat) : BArr (List.replicate S (.int .u8 0)) S (fun _ => 0) := ⟨by simp, fun i hi => by simp [hi]⟩
theorem BArr.congr {C : List Value} {S : Nat} {f g : Nat → Int} (h : BArr C S f) (e : ∀ i, i < S → f i = g i) : BArr C S g := ⟨h.1, fun i hi => by rw [h.2 i hi, e i hi]⟩
theorem splice_at {α : Type} (L : List α) (off : Nat) (cs : List α) (h : off + cs.length ≤ L.length) (i : Nat) : (splice L off cs)[i]? = if off ≤ i ∧ i < off + cs.length then cs[i - off]? else L[i]? := by
  unfold splice
  by_cases h1 : i < off
  · rw [List.getElem?_append_left (by simp; omega), if_neg (by omega), List.getElem?_take_of_lt h1]
  · rw [List.getElem?_append_right (by simp; omega)]
    have e : (L.take off).length = off := by simp; omega
    rw [e]
    by_cases h2 : i < off + cs.length
    · rw [if_pos ⟨by omega, h2⟩, List.getElem?_append_left (by omega)]
    · rw [if_neg (by omega), List.getElem?_append_right (by omega), List.getElem?_drop]
      congr 1; omega
theorem BArr.lay {C : List Value} {S : Nat} {ps : Nat → Pc} {k : Nat} (h : BArr C S (laid ps k)) (hg : good S (ps k)) : BArr (splice C (ps k).at_.toNat (bytesOf (ps k).z (ps k).n)) S (laid ps (k + 1)) := by
  obtain ⟨g0, g1⟩ := hg
  have hl : (ps k).at_.toNat + (bytesOf (ps k).z (ps k).n).length ≤ C.length := by rw [bytesOf_len, h.1]; omega
  refine ⟨by rw [length_splice _ _ _ hl, h.1], fun i hi => ?_⟩
  rw [splice_at _ _ _ hl, bytesOf_len]
  by_cases c : (ps k).at_ ≤ i ∧ (i : Int) < (ps k).at_ + (ps k).n
  · have e1 : laid ps (k + 1) i = (ps k).z ((i : Int) - (ps k).at_).toNat := by simp only [laid]; rw [if_pos c]
    rw [if_pos (by omega), e1, bytesOf_at _ _ _ (by omega)]
    congr 3; omega
  · have e1 : laid ps (k + 1) i = laid ps k i := by simp only [laid]; rw [if_neg c]
    rw [if_neg (by omega), e1]
    exact h.2 i hi
theorem BArr.set_ {C : List Value} {S : Nat} {f : Nat → Int} (h : BArr C S f) (j : Nat) (hj : j < S) (x : Int) : BArr (C.set j (.int .u8 x)) S (fun i => if i = j then x else f i) := by
  refine ⟨by rw [List.length_set, h.1], fun i hi => ?_⟩
  rw [List.getElem?_set]
  by_cases e : j = i
  · subst e; simp [h.1, hj]
  · rw [if_neg e, h.2 i hi]; simp [show ¬ i = j from fun h => e h.symm]
/-- The bytes when j bytes of a piece have been laid. -/
def laidTo (f : Nat → Int) (p : Pc) (j : Nat) (i : Nat) : Int := if p.at_ ≤ i ∧ (i : Int) < p.at_ + j then p.z ((i : Int) - p.at_).toNat else f i
theorem laidTo_zero (f : Nat → Int) (p : Pc) : laidTo f p 0 = f := by
  funext i
  unfold laidTo
  rw [if_neg (by omega)]
theorem BArr.step {C : List Value} {S : Nat} {f : Nat → Int} {p : Pc} {j off : Nat} (h : BArr C S (laidTo f p j)) (e : p.at_ = off) (hj : off + j < S) : BArr (C.set (off + j) (.int .u8 (p.z j))) S (laidTo f p (j + 1)) := by
  refine (h.set_ (off + j) hj (p.z j)).congr fun i hi => ?_
  unfold laidTo
  rw [e]
  by_cases c : i = off + j
  · subst c
    rw [if_pos rfl, if_pos (by omega)]
    congr 1; omega
  · rw [if_neg c]
    by_cases d : (off : Int) ≤ i ∧ (i : Int) < off + j
    · rw [if_pos d, if_pos (by omega)]
    · rw [if_neg d, if_neg (by omega)]
end Go.Proofs.YtleofglnlfpoeaaGreat
namespace Go.Proofs.YtleofglnlfpoeaaGreat
open Go.RowKit
set_option linter.unusedVariables false
set_option linter.unusedSimpArgs false
set_option maxRecDepth 100000
/-- 64 bytes, by value. -/
def arr (z : Nat → Int) : Array Value := (bytesOf z 64).toArray
theorem arr_size (z : Nat → Int) : (arr z).size = 64 := by simp [arr, bytesOf_len]
theorem arr_at (z : Nat → Int) (i : Nat) (h : i < 64) : (arr z)[i]? = some (.int .u8 (z i)) := by simp [arr, bytesOf_at z 64 i h]
theorem arr_one (z : Nat → Int) : (arr z).all (·.oneCell') = true := by
  rw [Array.all_eq_true]
  intro i hi
  exact bytesOf_one z 64 _ (by simp [arr] at hi ⊢)
theorem arr_congr {z z' : Nat → Int} (h : ∀ i, i < 64 → z i = z' i) : arr z = arr z' := by
  unfold arr bytesOf
  congr 1
  apply List.map_congr_left
  intro i hi
  rw [h i (by simpa using hi)]
theorem info88 : (Tryz.prog.info? 168).map (fun i => (i.zero, i.size)) = some (some (.agg (arr fun _ => 0)), 64) := by kernel_rfl
theorem zero88 (w : World) : (zeroValue 168).run Tryz.prog w = .ok (.agg (arr fun _ => 0)) w := (zero_of_info info88).1 w
theorem size88 : (Tryz.prog.info? 168).map (·.size) = some 64 := (zero_of_info info88).2
set_option maxHeartbeats 1000000 in
theorem place_any (a : Int) (w : World) (a0 : 0 ≤ a) (a1 : a ≤ 65535) :
    Calls Tryz.prog 85 #[.int .u16 a] w fun e w' => e = .returned (.tuple #[.int .i64 (a % 8192 / 64), .int .i64 (a % 8192 % 64)]) ∧ w = w' := by
  go_enter Tryz.func85, Tryz.ntmps85
  go_wp2
  go_ret2
  exact ⟨rfl, rfl⟩
theorem store_new (W : World) (z z' : Nat → Int) : (storeCells ⟨W.heap.size, 0, none⟩ (arr z').toList).run Tryz.prog (W.alloc (.cells (arr z) 168)) = .ok () (W.alloc (.cells (arr z') 168)) :=
  run_storeCells_new (P := Tryz.prog) W 168 (arr z) (arr z') (by rw [arr_size]; exact size88) (by rw [arr_size, arr_size]) (arr_one z')
theorem load_new (W : World) (z : Nat → Int) : (loadVar 168 ⟨W.heap.size, 0, none⟩).run Tryz.prog (W.alloc (.cells (arr z) 168)) = .ok (.agg (arr z)) (W.alloc (.cells (arr z) 168)) :=
  run_loadVar_new (P := Tryz.prog) W 168 (arr z) 64 5 Tryz.underlying168 (by rw [arr_size]; exact size88)
set_option maxHeartbeats 1000000 in
theorem block_nil (k : Int) (w : World) : Calls Tryz.prog 86 #[.pointer none, .int .i64 k] w fun e w' => e = .returned (.agg (arr fun _ => 0)) ∧ Below w.heap.size w w' := by
  have hz := zero88
  have hst := store_new
  have hsz := arr_size
  go_enter Tryz.func86, Tryz.ntmps86
  go_wp2
  refine bodyPost_ret (v := .agg (arr fun _ => 0)) (results_cell (a := ⟨w.heap.size, 0, none⟩) Tryz.results86 (by rfl) (load_new _ _)) rfl ?_
  exact ⟨rfl, (Below.refl _ _).alloc (Nat.le_refl _) _⟩
/-- Is some byte of a block not 0? How many of the first blocks have such? -/
def nz (f : Nat → Int) (k : Nat) : Bool := (List.range 64).any fun i => f (64 * k + i) != 0
def cnt (f : Nat → Int) : Nat → Nat
  | 0 => 0
  | n + 1 => cnt f n + if nz f n then 1 else 0
def bk (f : Nat → Int) (k : Nat) : Array Value := arr fun i => f (64 * k + i)
abbrev RH : Value → Option (DataW Value × List MemPlace) := fun v => some (.held v, [])
def MV (D : DataW Value) (f : Nat → Int) : Prop :=
  (∀ k : Nat, k < 128 → D.atKey (.int .i64 (k : Int)) (.held (.agg (arr fun _ => 0))) = .held (.agg (bk f k))) ∧ (∀ k : Nat, k < 128 → Maps.has D (.int .i64 (k : Int)) = nz f k) ∧ Maps.size D = cnt f 128
/-- Work memory at g has the bytes f; its blocks stand in the map at block mb. -/
def RM (w : World) (mb : Option Nat) (f : Nat → Int) : Prop := match mb with
  | none => ∀ i, i < 8192 → f i = 0
  | some b => ∃ D, w.ownsMap Tryz.prog 3 RH b 128 D ∧ MV D f
def RD (w : World) (g : Nat) (mb : Option Nat) (f : Nat → Int) : Prop := Blk w g 163 #[.map mb] ∧ RM w mb f
theorem keyed3 : Maps.Keyed Tryz.prog 3 := Maps.int_keyed Tryz.underlying3
theorem key3 (k : Nat) (h : k < 128) : keyOf Tryz.prog 3 (.int .i64 (k : Int)) = some (.int .i64 (k : Int)) := Maps.keyOf_int_mk Tryz.underlying3 (WalkArith.wf_i64 (by omega))
/-- A look-up of a block. -/
theorem look_some {w : World} {b : Nat} {D : DataW Value} {f : Nat → Int} (h : w.ownsMap Tryz.prog 3 RH b 128 D) (hv : MV D f) {k : Nat} (hk : k < 128) :
    (Instr.lookup 161 (.map (some b)) (.int .i64 (k : Int)) false).run Tryz.prog w = .ok (.agg (bk f k)) w := by
  obtain ⟨v, ps, hr, hR⟩ := h.lookup keyed3 Tryz.underlying161 (zero88 w) (zd := .held (.agg (arr fun _ => 0))) (zp := []) rfl (key3 k hk)
  rw [hv.1 k hk] at hR
  simp only [RH, Option.some.injEq, Prod.mk.injEq, DataW.held.injEq] at hR
  rw [hr, hR.1]
theorem look_none {w : World} {f : Nat → Int} (hf : ∀ i, i < 8192 → f i = 0) {k : Nat} (hk : k < 128) :
    (Instr.lookup 161 (.map none) (.int .i64 (k : Int)) false).run Tryz.prog w = .ok (.agg (bk f k)) w := by
  have h := Maps.look_nil (P := Tryz.prog) (w := w) false keyed3 Tryz.underlying161 (zero88 w) (key3 k hk)
  have e : bk f k = arr fun _ => 0 := arr_congr fun i hi => hf _ (by omega)
  rw [e]
  exact h
set_option maxHeartbeats 1000000 in
theorem block_any {w : World} {g : Nat} {mb : Option Nat} {f : Nat → Int} (h : RD w g mb f) (k : Nat) (hk : k < 128) :
    Calls Tryz.prog 86 #[.pointer (some ⟨g, 0, none⟩), .int .i64 k] w fun e w' => e = .returned (.agg (bk f k)) ∧ Below w.heap.size w w' := by
  have hz := zero88
  have hst := store_new
  have hsz := arr_size
  obtain ⟨hg, hm⟩ := h
  have hw1 := hg.alloc (.cells (arr fun _ => 0) 168)
  have c0 : (w.alloc (.cells (arr fun _ => 0) 168)).cell? ⟨g, 0, none⟩ = some (.map mb) := hw1.cell 0
  have hlk : (Instr.lookup 161 (.map mb) (.int .i64 (k : Int)) false).run Tryz.prog (w.alloc (.cells (arr fun _ => 0) 168)) = .ok (.agg (bk f k)) (w.alloc (.cells (arr fun _ => 0) 168)) := by
    cases mb with
    | none => exact look_none hm hk
    | some b => obtain ⟨D, ho, hv⟩ := hm; exact look_some (ho.alloc _) hv hk
  unfold bk at hlk
  clear hg hm hw1
  go_enter Tryz.func86, Tryz.ntmps86
  go_wp2
  refine bodyPost_ret (v := .agg (bk f k)) (results_cell (a := ⟨w.heap.size, 0, none⟩) Tryz.results86 (by rfl) (load_new _ _)) rfl ?_
  exact ⟨rfl, (Below.refl _ _).alloc (Nat.le_refl _) _⟩
end Go.Proofs.YtleofglnlfpoeaaGreat
namespace Go.Proofs.YtleofglnlfpoeaaGreat
open Go.RowKit
theorem run_equalIn_array {P : Program} (w : World) (d : Nat) (t e : TypeId) (len : Nat) (xs ys : Array Value) (p : Nat → Bool) (ht : P.underlying t = some (.array len e)) (hs : (sizeOf e).run P w = .ok 1 w)
    (h : ∀ i, i < len → ∃ a b, (part e xs (i * 1)).run P w = .ok a w ∧ (part e ys (i * 1)).run P w = .ok b w ∧ (Op.equalIn d e a b).run P w = .ok (p i) w) :
    (Op.equalIn (d + 1) t (.agg xs) (.agg ys)).run P w = .ok ((List.range len).all p) w := by
  simp only [Op.equalIn, Sem.run_bind, run_underlying ht, Result.andThen_ok, hs]
  rw [Std.Legacy.Range.forIn_eq_forIn_range']
  have hL : ∀ i ∈ List.range' 0 len, i < len := fun i hi => by simpa using hi
  rw [List.range_eq_range']
  simp only [Std.Legacy.Range.size, Nat.sub_zero, Nat.add_sub_cancel, Nat.div_one]
  generalize List.range' 0 len = L at *
  induction L with
  | nil => simp
  | cons i L ih =>
    obtain ⟨a, b, h1, h2, h3⟩ := h i (hL i (by simp))
    simp only [List.forIn_cons, Sem.run_bind, h1, h2, h3, Result.andThen_ok, Sem.run_ite]
    cases hp : p i with
    | false => simp [hp]
    | true =>
      simp only [hp, List.all_cons, Bool.true_and]
      simpa using ih (fun j hj => hL j (by simp [hj]))
end Go.Proofs.YtleofglnlfpoeaaGreat
