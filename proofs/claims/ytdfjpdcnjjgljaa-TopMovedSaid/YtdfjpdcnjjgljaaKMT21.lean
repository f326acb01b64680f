/-
  Texts of these proofs, one behind the other: Ram1.
-/
import Derived.Test.YtdfjpdcnjjgljaaProg
import Derived.WalkKit
import Derived.Test.YtdfjpdcnjjgljaaKMT05
import Derived.Test.YtdfjpdcnjjgljaaKMT08
import Derived.Test.YtdfjpdcnjjgljaaKMT20
import Derived.Deep.WholeRow
import Derived.Maps.Own
import Derived.Maps.OwnOps
import Derived.Maps.OwnSet
import Derived.Maps.Views
namespace Go.Proofs.Ytdfjpdcnjjgljaa
open Go.RowKit
set_option linter.unusedVariables false
set_option linter.unusedSimpArgs false
set_option maxRecDepth 100000
/-- 64 bytes, by value. -/
def arr (z : Nat → Int) : Array Value := (bytesOf z 64).toArray
theorem arr_size (z : Nat → Int) : (arr z).size = 64 := by simp [arr, bytesOf_len]
theorem arr_at (z : Nat → Int) (i : Nat) (h : i < 64) : (arr z)[i]? = some (.int .u8 (z i)) := by simp [arr, bytesOf_at z 64 i h]
theorem arr_one (z : Nat → Int) : (arr z).all (·.oneCell') = true := by
  rw [Array.all_eq_true]
  intro i hi
  exact bytesOf_one z 64 _ (by simp [arr] at hi ⊢)
theorem arr_congr {z z' : Nat → Int} (h : ∀ i, i < 64 → z i = z' i) : arr z = arr z' := by
  unfold arr bytesOf
  congr 1
  apply List.map_congr_left
  intro i hi
  rw [h i (by simpa using hi)]
theorem arr_inj {z z' : Nat → Int} (h : arr z = arr z') (i : Nat) (hi : i < 64) : z i = z' i := by
  have h1 := arr_at z i hi
  rw [h, arr_at z' i hi] at h1
  simpa using h1.symm
def z64 : Array Value := #[.int .u8 0, .int .u8 0, .int .u8 0, .int .u8 0, .int .u8 0, .int .u8 0, .int .u8 0, .int .u8 0, .int .u8 0, .int .u8 0, .int .u8 0, .int .u8 0, .int .u8 0, .int .u8 0, .int .u8 0, .int .u8 0, .int .u8 0, .int .u8 0, .int .u8 0, .int .u8 0, .int .u8 0, .int .u8 0, .int .u8 0, .int .u8 0, .int .u8 0, .int .u8 0, .int .u8 0, .int .u8 0, .int .u8 0, .int .u8 0, .int .u8 0, .int .u8 0, .int .u8 0, .int .u8 0, .int .u8 0, .int .u8 0, .int .u8 0, .int .u8 0, .int .u8 0, .int .u8 0, .int .u8 0, .int .u8 0, .int .u8 0, .int .u8 0, .int .u8 0, .int .u8 0, .int .u8 0, .int .u8 0, .int .u8 0, .int .u8 0, .int .u8 0, .int .u8 0, .int .u8 0, .int .u8 0, .int .u8 0, .int .u8 0, .int .u8 0, .int .u8 0, .int .u8 0, .int .u8 0, .int .u8 0, .int .u8 0, .int .u8 0, .int .u8 0]
theorem z64_arr : z64 = arr (fun _ => 0) := by kernel_rfl
theorem info88 : (Try.prog.info? 47).map (fun i => (i.zero, i.size)) = some (some (.agg (arr fun _ => 0)), 64) := by kernel_rfl
theorem zero88 (w : World) : (zeroValue 47).run Try.prog w = .ok (.agg (arr fun _ => 0)) w := (zero_of_info info88).1 w
theorem size88 : (Try.prog.info? 47).map (·.size) = some 64 := (zero_of_info info88).2
set_option maxHeartbeats 1000000 in
theorem place_any (a : Int) (w : World) (a0 : 0 ≤ a) (a1 : a ≤ 65535) :
    Calls Try.prog 14 #[.int .u16 a] w fun e w' => e = .returned (.tuple #[.int .i64 (a % 8192 / 64), .int .i64 (a % 8192 % 64)]) ∧ w = w' := by
  go_enter Try.func14, Try.ntmps14
  go_wp2
  go_ret2
  exact ⟨rfl, rfl⟩
theorem store_new (W : World) (z z' : Nat → Int) : (storeCells ⟨W.heap.size, 0, none⟩ (arr z').toList).run Try.prog (W.alloc (.cells (arr z) 47)) = .ok () (W.alloc (.cells (arr z') 47)) :=
  run_storeCells_new (P := Try.prog) W 47 (arr z) (arr z') (by rw [arr_size]; exact size88) (by rw [arr_size, arr_size]) (arr_one z')
theorem load_new (W : World) (z : Nat → Int) : (loadVar 47 ⟨W.heap.size, 0, none⟩).run Try.prog (W.alloc (.cells (arr z) 47)) = .ok (.agg (arr z)) (W.alloc (.cells (arr z) 47)) :=
  run_loadVar_new (P := Try.prog) W 47 (arr z) 64 5 Try.underlying47 (by rw [arr_size]; exact size88)
set_option maxHeartbeats 1000000 in
theorem block_nil (k : Int) (w : World) : Calls Try.prog 15 #[.pointer none, .int .i64 k] w fun e w' => e = .returned (.agg (arr fun _ => 0)) ∧ Below w.heap.size w w' := by
  have hz := zero88
  have hst := store_new
  have hsz := arr_size
  go_enter Try.func15, Try.ntmps15
  go_wp2
  refine bodyPost_ret (v := .agg (arr fun _ => 0)) (results_cell (a := ⟨w.heap.size, 0, none⟩) Try.results15 (by rfl) (load_new _ _)) rfl ?_
  exact ⟨rfl, (Below.refl _ _).alloc (Nat.le_refl _) _⟩
/-- Is some byte of a block not 0? How many of the first blocks have such? -/
def nz (f : Nat → Int) (k : Nat) : Bool := (List.range 64).any fun i => f (64 * k + i) != 0
def cnt (f : Nat → Int) : Nat → Nat
  | 0 => 0
  | n + 1 => cnt f n + if nz f n then 1 else 0
def bk (f : Nat → Int) (k : Nat) : Array Value := arr fun i => f (64 * k + i)
abbrev RH : Value → Option (DataW Value × List MemPlace) := fun v => some (.held v, [])
def MV (D : DataW Value) (f : Nat → Int) : Prop :=
  (∀ k : Nat, k < 128 → D.atKey (.int .i64 (k : Int)) (.held (.agg (arr fun _ => 0))) = .held (.agg (bk f k))) ∧ (∀ k : Nat, k < 128 → Maps.has D (.int .i64 (k : Int)) = nz f k) ∧ Maps.size D = cnt f 128
/-- Work memory at g has the bytes f; its blocks stand in the map at block mb. -/
def RM (w : World) (mb : Option Nat) (f : Nat → Int) : Prop := match mb with
  | none => ∀ i, i < 8192 → f i = 0
  | some b => ∃ D, w.ownsMap Try.prog 3 RH b 128 D ∧ MV D f
def RD (w : World) (g : Nat) (mb : Option Nat) (f : Nat → Int) : Prop := Blk w g 61 #[.map mb] ∧ RM w mb f
theorem keyed3 : Maps.Keyed Try.prog 3 := Maps.int_keyed Try.underlying3
theorem key3 (k : Nat) (h : k < 128) : keyOf Try.prog 3 (.int .i64 (k : Int)) = some (.int .i64 (k : Int)) := Maps.keyOf_int_mk Try.underlying3 (WalkArith.wf_i64 (by omega))
/-- A look-up of a block. -/
theorem look_some {w : World} {b : Nat} {D : DataW Value} {f : Nat → Int} (h : w.ownsMap Try.prog 3 RH b 128 D) (hv : MV D f) {k : Nat} (hk : k < 128) :
    (Instr.lookup 59 (.map (some b)) (.int .i64 (k : Int)) false).run Try.prog w = .ok (.agg (bk f k)) w := by
  obtain ⟨v, ps, hr, hR⟩ := h.lookup keyed3 Try.underlying59 (zero88 w) (zd := .held (.agg (arr fun _ => 0))) (zp := []) rfl (key3 k hk)
  rw [hv.1 k hk] at hR
  simp only [RH, Option.some.injEq, Prod.mk.injEq, DataW.held.injEq] at hR
  rw [hr, hR.1]
theorem look_none {w : World} {f : Nat → Int} (hf : ∀ i, i < 8192 → f i = 0) {k : Nat} (hk : k < 128) :
    (Instr.lookup 59 (.map none) (.int .i64 (k : Int)) false).run Try.prog w = .ok (.agg (bk f k)) w := by
  have h := Maps.look_nil (P := Try.prog) (w := w) false keyed3 Try.underlying59 (zero88 w) (key3 k hk)
  have e : bk f k = arr fun _ => 0 := arr_congr fun i hi => hf _ (by omega)
  rw [e]
  exact h
set_option maxHeartbeats 1000000 in
theorem block_any {w : World} {g : Nat} {mb : Option Nat} {f : Nat → Int} (h : RD w g mb f) (k : Nat) (hk : k < 128) :
    Calls Try.prog 15 #[.pointer (some ⟨g, 0, none⟩), .int .i64 k] w fun e w' => e = .returned (.agg (bk f k)) ∧ Below w.heap.size w w' := by
  have hz := zero88
  have hst := store_new
  have hsz := arr_size
  obtain ⟨hg, hm⟩ := h
  have hw1 := hg.alloc (.cells (arr fun _ => 0) 47)
  have c0 : (w.alloc (.cells (arr fun _ => 0) 47)).cell? ⟨g, 0, none⟩ = some (.map mb) := hw1.cell 0
  have hlk : (Instr.lookup 59 (.map mb) (.int .i64 (k : Int)) false).run Try.prog (w.alloc (.cells (arr fun _ => 0) 47)) = .ok (.agg (bk f k)) (w.alloc (.cells (arr fun _ => 0) 47)) := by
    cases mb with
    | none => exact look_none hm hk
    | some b => obtain ⟨D, ho, hv⟩ := hm; exact look_some (ho.alloc _) hv hk
  unfold bk at hlk
  clear hg hm hw1
  go_enter Try.func15, Try.ntmps15
  go_wp2
  refine bodyPost_ret (v := .agg (bk f k)) (results_cell (a := ⟨w.heap.size, 0, none⟩) Try.results15 (by rfl) (load_new _ _)) rfl ?_
  exact ⟨rfl, (Below.refl _ _).alloc (Nat.le_refl _) _⟩
end Go.Proofs.Ytdfjpdcnjjgljaa
