/-
  Texts of these proofs, one behind the other: Ram6.
-/
import Derived.Test.YtndhkdcdhpfajaaGreatKED29
import Derived.Test.YtndhkdcdhpfajaaGreatKED11
import Derived.Test.YtndhkdcdhpfajaaGreatKED35
namespace Go.Proofs.YtndhkdcdhpfajaaGreat
open Go.RowKit
set_option linter.unusedVariables false
set_option linter.unusedSimpArgs false
set_option maxRecDepth 100000
theorem make_room (n : Nat) (hn : n ≤ 16777216) (w : World) : ∃ cur, cur.size = n ∧ (Instr.makeSlice 22 (.int .i64 0) (.int .i64 (n : Int))).run Tryz.prog w = .ok (.slice (some ⟨w.heap.size, 0, none⟩) 0 n) (w.alloc (.cells cur 5)) := by
 obtain ⟨i, hi, hzz⟩ := Option.map_eq_some_iff.1 u8_info'
 simp only [Prod.mk.injEq] at hzz
 obtain ⟨hz, hs, hb⟩ := hzz
 have h := run_makeSlice (P := Tryz.prog) w 22 5 i _ Tryz.underlying22 hi hz .i64 .i64 0 n (by omega) (by omega) (by rw [hs]; simp; omega) (by rw [hb]; omega) (by omega)
 refine ⟨_, ?_, h⟩
 simp [madeCells, hs]
theorem intsOf_congr (z z' : Nat → Int) (n : Nat) (h : ∀ i, i < n → z i = z' i) : intsOf .u8 z n = intsOf .u8 z' n := by
 unfold intsOf
 apply List.map_congr_left
 intro i hi
 rw [h i (by simpa using hi)]
theorem arr_row {w : World} {g : Nat} {z : Nat → Int} (h : Blk w g 191 (arr z)) (hw : ∀ i, i < 64 → (Lit.int .u8 (z i)).wf = true) : IRow w .u8 (some ⟨g, 0, none⟩) 64 z := fun i hi =>
 ⟨_, rfl, h.lt, by rw [add_zero_block, h.cell i]; exact arr_at z i hi, hw i hi⟩
def PiecesR (f : Nat → Int) (w : World) (e : Ending) (w' : World) : Prop :=
 (∃ v ps B, e = .returned v ∧ w'.ownsRow B 141 2 v (runs f 8192).length (cellsP ps (runs f 8192).length) ∧ PL w' f (runs f 8192) ps) ∧ Below w.heap.size w w'
set_option maxHeartbeats 2000000 in
theorem rpieces_any {w : World} {v : Value} {f : Nat → Int} (h : RA w v f) (hf : ∀ i, i < 8192 → (Lit.int .u8 (f i)).wf = true) :
  Calls Tryz.prog 64 #[v] w (PiecesR f w) := by
 obtain ⟨cur, hcs, hmk0⟩ := make_room 8192 (by omega) w
 have hmk : (Instr.makeSlice 22 (.int .i64 0) (.int .i64 8192)).run Tryz.prog w = .ok (.slice (some ⟨w.heap.size, 0, none⟩) 0 8192) (w.alloc (.cells cur 5)) := hmk0
 clear hmk0
 have HH := Lib.hid h
 have HF := Lib.hid hf
 have hz := zero88
 have hst := store_new
 have hsz := arr_size
 have hown0 : (w.alloc (.cells cur 5)).ownsRow w.heap.size 5 1 (.slice (some ⟨w.heap.size, 0, none⟩) 0 8192) 0 (intsOf .u8 f 0) := World.ownsRow_made w cur 8192 (Nat.le_refl _) (by unfold maxLen; omega) (by omega)
 have hB0 : Below w.heap.size w (w.alloc (.cells cur 5)) := (Below.refl _ _).alloc (Nat.le_refl _) _
 have HO := Lib.hid hown0
 have HB := Lib.hid hB0
 clear h hf hown0 hB0 hcs
 go_enter Tryz.func64, Tryz.ntmps64
 go_wp2_with fail
 go_loopw [3, 9] (fun p i wr => ∃ k : Nat, k ≤ 128 ∧ i = .int .i64 k ∧ wr.ownsRow w.heap.size 5 1 p (64 * k) (intsOf .u8 f (64 * k)) ∧ Below w.heap.size w wr) (fun _ i _ => 128 - (intOf i).toNat)
 case atStart => exact ⟨0, by omega, rfl, HO.out, HB.out⟩
 case round =>
  obtain ⟨k, hk, rfl, hown, hB⟩ := hrel
  by_cases hlt : k < 128
  ·have i0 : (0 : Int) ≤ (k : Int) := by omega
   have i1 : (k : Int) < 128 := by omega
   have HO1 := Lib.hid hown
   clear hown
   go_wp2_with fail
   refine (block_ra (HH.out.keep hB) k hlt).mono ?_
   rintro e w1 ⟨rfl, h1⟩
   have hB1 := hB.trans (h1.mono hB.size)
   have hown1 : (w1.alloc (.cells (arr fun i => f (64 * k + i)) 191)).ownsRow w.heap.size 5 1 u3 (64 * k) (intsOf .u8 f (64 * k)) :=
    (HO1.out.kept (row := none) ⟨h1.os, h1.tape, h1.output, h1.size, fun i hi _ => h1.block i hi⟩ (by cases u3.ownBlock <;> simp)).alloc _
   have hr1 := arr_row (Blk.new w1 191 (arr fun i => f (64 * k + i))) (fun i hi => HF.out _ (by omega))
   obtain ⟨v2, w2, r2, o2, g2⟩ := more_ints (P := Tryz.prog) (t := 22) (ty := 22) (bytes := 1) (c := 64) Tryz.underlying22 u8_info' (by omega) hown1 hr1 (by omega) (by have := hB1.size; simp; omega)
   have hB2 := (hB1.alloc hB1.size (.cells (arr fun i => f (64 * k + i)) 191)).grown g2 (by have := hB1.size; simp; omega) (fun k h => (hown1.lt k h).1)
   rw [intsOf_cat] at o2
   have o3 : w2.ownsRow w.heap.size 5 1 v2 (64 * (k + 1)) (intsOf .u8 f (64 * (k + 1))) := by
    rw [show 64 * (k + 1) = 64 * k + 64 by omega]
    rw [intsOf_congr f (fun i => if i < 64 * k then f i else f (64 * k + (i - 64 * k))) (64 * k + 64) (fun i hi => by
     by_cases h : i < 64 * k
     ·rw [if_pos h]
     ·rw [if_neg h]; congr 1; omega)]
    exact o2
   have O3 := Lib.hid o3
   have HB2 := Lib.hid hB2
   clear hown1 hr1 o2 o3 g2 hB2 hB hB1 h1
   unfold bk
   go_wp2_with (at_builtin; refine wpList_append_run rfl (.tmp 15) (.tmp 16) 22 rfl rfl rfl r2 ?_)
   go_roundw
   case rel => exact ⟨k + 1, by omega, by go_num, O3.out, HB2.out⟩
   case measure => simp [intOf]; omega
  ·obtain rfl : k = 128 := by omega
   obtain ⟨A, cap, rfl, p1, p2, p3, p4, p5, _⟩ := own_row hown (fun i hi => HF.out i (by omega))
   have hP := pieces_any A 8192 cap f p1 (by omega) (by kernel_rfl) p3
   have HP := Lib.hid hP
   clear hP p3 p4 p5 hown
   go_wp2_with fail
   refine HP.out.mono ?_
   rintro e w3 ⟨⟨v3, ps, rfl, q1, q2⟩, q3⟩
   have Q1 := Lib.hid q1
   have Q2 := Lib.hid q2
   clear q1 q2
   go_wp2_with fail
   go_ret
   exact ⟨⟨_, ps, _, rfl, Q1.out, Q2.out⟩, hB.trans (q3.mono hB.size)⟩
end Go.Proofs.YtndhkdcdhpfajaaGreat
