/-
  Texts of these proofs, one behind the other: Ram1, Cart2, Cart3.
-/
import Derived.Test.YtngfmofjonleeaaGreatProg
import Derived.WalkKit
import Derived.Test.YtngfmofjonleeaaGreatKEA05
import Derived.Test.YtngfmofjonleeaaGreatKEA10
import Derived.Test.YtngfmofjonleeaaGreatKEA24
import Derived.Deep.WholeRow
import Derived.Maps.Own
import Derived.Maps.OwnOps
import Derived.Maps.OwnSet
import Derived.Maps.Views
import Derived.Test.YtngfmofjonleeaaGreatKEA25
import Derived.Deep.QuietTactic
import Derived.BigQuiet
import Derived.StillTailTactics
namespace Go.Proofs.YtngfmofjonleeaaGreat
open Go.RowKit
set_option linter.unusedVariables false
set_option linter.unusedSimpArgs false
set_option maxRecDepth 100000
/-- 64 bytes, by value. -/
def arr (z : Nat → Int) : Array Value := (bytesOf z 64).toArray
theorem arr_size (z : Nat → Int) : (arr z).size = 64 := by simp [arr, bytesOf_len]
theorem arr_at (z : Nat → Int) (i : Nat) (h : i < 64) : (arr z)[i]? = some (.int .u8 (z i)) := by simp [arr, bytesOf_at z 64 i h]
theorem arr_one (z : Nat → Int) : (arr z).all (·.oneCell') = true := by
  rw [Array.all_eq_true]
  intro i hi
  exact bytesOf_one z 64 _ (by simp [arr] at hi ⊢)
theorem arr_congr {z z' : Nat → Int} (h : ∀ i, i < 64 → z i = z' i) : arr z = arr z' := by
  unfold arr bytesOf
  congr 1
  apply List.map_congr_left
  intro i hi
  rw [h i (by simpa using hi)]
theorem info88 : (Tryz.prog.info? 208).map (fun i => (i.zero, i.size)) = some (some (.agg (arr fun _ => 0)), 64) := by kernel_rfl
theorem zero88 (w : World) : (zeroValue 208).run Tryz.prog w = .ok (.agg (arr fun _ => 0)) w := (zero_of_info info88).1 w
theorem size88 : (Tryz.prog.info? 208).map (·.size) = some 64 := (zero_of_info info88).2
set_option maxHeartbeats 1000000 in
theorem place_any (a : Int) (w : World) (a0 : 0 ≤ a) (a1 : a ≤ 65535) :
    Calls Tryz.prog 127 #[.int .u16 a] w fun e w' => e = .returned (.tuple #[.int .i64 (a % 8192 / 64), .int .i64 (a % 8192 % 64)]) ∧ w = w' := by
  go_enter Tryz.func127, Tryz.ntmps127
  go_wp2
  go_ret2
  exact ⟨rfl, rfl⟩
theorem store_new (W : World) (z z' : Nat → Int) : (storeCells ⟨W.heap.size, 0, none⟩ (arr z').toList).run Tryz.prog (W.alloc (.cells (arr z) 208)) = .ok () (W.alloc (.cells (arr z') 208)) :=
  run_storeCells_new (P := Tryz.prog) W 208 (arr z) (arr z') (by rw [arr_size]; exact size88) (by rw [arr_size, arr_size]) (arr_one z')
theorem load_new (W : World) (z : Nat → Int) : (loadVar 208 ⟨W.heap.size, 0, none⟩).run Tryz.prog (W.alloc (.cells (arr z) 208)) = .ok (.agg (arr z)) (W.alloc (.cells (arr z) 208)) :=
  run_loadVar_new (P := Tryz.prog) W 208 (arr z) 64 5 Tryz.underlying208 (by rw [arr_size]; exact size88)
/-- Is some byte of a block not 0? How many of the first blocks have such? -/
def nz (f : Nat → Int) (k : Nat) : Bool := (List.range 64).any fun i => f (64 * k + i) != 0
def cnt (f : Nat → Int) : Nat → Nat
  | 0 => 0
  | n + 1 => cnt f n + if nz f n then 1 else 0
def bk (f : Nat → Int) (k : Nat) : Array Value := arr fun i => f (64 * k + i)
abbrev RH : Value → Option (DataW Value × List MemPlace) := fun v => some (.held v, [])
def MV (D : DataW Value) (f : Nat → Int) : Prop :=
  (∀ k : Nat, k < 128 → D.atKey (.int .i64 (k : Int)) (.held (.agg (arr fun _ => 0))) = .held (.agg (bk f k))) ∧ (∀ k : Nat, k < 128 → Maps.has D (.int .i64 (k : Int)) = nz f k) ∧ Maps.size D = cnt f 128
/-- Work memory at g has the bytes f; its blocks stand in the map at block mb. -/
def RM (w : World) (mb : Option Nat) (f : Nat → Int) : Prop := match mb with
  | none => ∀ i, i < 8192 → f i = 0
  | some b => ∃ D, w.ownsMap Tryz.prog 3 RH b 128 D ∧ MV D f
def RD (w : World) (g : Nat) (mb : Option Nat) (f : Nat → Int) : Prop := Blk w g 159 #[.map mb] ∧ RM w mb f
theorem keyed3 : Maps.Keyed Tryz.prog 3 := Maps.int_keyed Tryz.underlying3
theorem key3 (k : Nat) (h : k < 128) : keyOf Tryz.prog 3 (.int .i64 (k : Int)) = some (.int .i64 (k : Int)) := Maps.keyOf_int_mk Tryz.underlying3 (WalkArith.wf_i64 (by omega))
/-- A look-up of a block. -/
theorem look_some {w : World} {b : Nat} {D : DataW Value} {f : Nat → Int} (h : w.ownsMap Tryz.prog 3 RH b 128 D) (hv : MV D f) {k : Nat} (hk : k < 128) :
    (Instr.lookup 157 (.map (some b)) (.int .i64 (k : Int)) false).run Tryz.prog w = .ok (.agg (bk f k)) w := by
  obtain ⟨v, ps, hr, hR⟩ := h.lookup keyed3 Tryz.underlying157 (zero88 w) (zd := .held (.agg (arr fun _ => 0))) (zp := []) rfl (key3 k hk)
  rw [hv.1 k hk] at hR
  simp only [RH, Option.some.injEq, Prod.mk.injEq, DataW.held.injEq] at hR
  rw [hr, hR.1]
theorem look_none {w : World} {f : Nat → Int} (hf : ∀ i, i < 8192 → f i = 0) {k : Nat} (hk : k < 128) :
    (Instr.lookup 157 (.map none) (.int .i64 (k : Int)) false).run Tryz.prog w = .ok (.agg (bk f k)) w := by
  have h := Maps.look_nil (P := Tryz.prog) (w := w) false keyed3 Tryz.underlying157 (zero88 w) (key3 k hk)
  have e : bk f k = arr fun _ => 0 := arr_congr fun i hi => hf _ (by omega)
  rw [e]
  exact h
set_option maxHeartbeats 1000000 in
theorem block_any {w : World} {g : Nat} {mb : Option Nat} {f : Nat → Int} (h : RD w g mb f) (k : Nat) (hk : k < 128) :
    Calls Tryz.prog 128 #[.pointer (some ⟨g, 0, none⟩), .int .i64 k] w fun e w' => e = .returned (.agg (bk f k)) ∧ Below w.heap.size w w' := by
  have hz := zero88
  have hst := store_new
  have hsz := arr_size
  obtain ⟨hg, hm⟩ := h
  have hw1 := hg.alloc (.cells (arr fun _ => 0) 208)
  have c0 : (w.alloc (.cells (arr fun _ => 0) 208)).cell? ⟨g, 0, none⟩ = some (.map mb) := hw1.cell 0
  have hlk : (Instr.lookup 157 (.map mb) (.int .i64 (k : Int)) false).run Tryz.prog (w.alloc (.cells (arr fun _ => 0) 208)) = .ok (.agg (bk f k)) (w.alloc (.cells (arr fun _ => 0) 208)) := by
    cases mb with
    | none => exact look_none hm hk
    | some b => obtain ⟨D, ho, hv⟩ := hm; exact look_some (ho.alloc _) hv hk
  unfold bk at hlk
  clear hg hm hw1
  go_enter Tryz.func128, Tryz.ntmps128
  go_wp2
  refine bodyPost_ret (v := .agg (bk f k)) (results_cell (a := ⟨w.heap.size, 0, none⟩) Tryz.results128 (by rfl) (load_new _ _)) rfl ?_
  exact ⟨rfl, (Below.refl _ _).alloc (Nat.le_refl _) _⟩
end Go.Proofs.YtngfmofjonleeaaGreat
namespace Go.Proofs.YtngfmofjonleeaaGreat
open Go.RowKit
set_option linter.unusedVariables false
theorem u8_info : (Tryz.prog.info? 5).map (fun i => (i.zero, i.size, i.bytes)) = some (some (.int .u8 0), 1, 1) := by kernel_rfl
set_option maxRecDepth 100000 in
theorem make_bytes (n : Nat) (hn : n ≤ 16777216) (w : World) : (Instr.makeSlice 34 (.int .i64 (n : Int)) (.int .i64 (n : Int))).run Tryz.prog w = .ok (.slice (some ⟨w.heap.size, 0, none⟩) n n) (w.alloc (.cells (Array.replicate n (.int .u8 0)) 5)) := by
  obtain ⟨i, hi, hzz⟩ := Option.map_eq_some_iff.1 u8_info
  simp only [Prod.mk.injEq] at hzz
  obtain ⟨hz, hs, hb⟩ := hzz
  have h := run_makeSlice (P := Tryz.prog) w 34 5 i _ Tryz.underlying34 hi hz .i64 .i64 n n (by omega) (by omega) (by rw [hs]; simp; omega) (by rw [hb]; omega) (by omega)
  rw [h]
  simp only [Int.toNat_natCast, hs, Nat.mul_one]
  congr 3
  unfold madeCells
  apply Array.ext
  · simp
  · intro i h1 h2; simp [Value.cells, Nat.mod_one]
end Go.Proofs.YtngfmofjonleeaaGreat
namespace Go.Proofs.YtngfmofjonleeaaGreat
open Go.RowKit
set_option linter.unusedVariables false
end Go.Proofs.YtngfmofjonleeaaGreat
