/-
  Texts of these proofs, one behind the other: Ram1, Cart2, Cart3.
-/
import Derived.Test.YtndhkdcdhpfajaaGreatProg
import Derived.WalkKit
import Derived.Test.YtndhkdcdhpfajaaGreatKED05
import Derived.Test.YtndhkdcdhpfajaaGreatKED10
import Derived.Test.YtndhkdcdhpfajaaGreatKED25
import Derived.Deep.WholeRow
import Derived.Maps.Own
import Derived.Maps.OwnOps
import Derived.Maps.OwnSet
import Derived.Maps.Views
import Derived.Test.YtndhkdcdhpfajaaGreatKED26
import Derived.Deep.QuietTactic
import Derived.BigQuiet
import Derived.StillTailTactics
namespace Go.Proofs.YtndhkdcdhpfajaaGreat
open Go.RowKit
set_option linter.unusedVariables false
set_option linter.unusedSimpArgs false
set_option maxRecDepth 100000
/-- 64 bytes, by value. -/
def arr (z : Nat → Int) : Array Value := (bytesOf z 64).toArray
theorem arr_size (z : Nat → Int) : (arr z).size = 64 := by simp [arr, bytesOf_len]
theorem arr_at (z : Nat → Int) (i : Nat) (h : i < 64) : (arr z)[i]? = some (.int .u8 (z i)) := by simp [arr, bytesOf_at z 64 i h]
theorem arr_one (z : Nat → Int) : (arr z).all (·.oneCell') = true := by
 rw [Array.all_eq_true]
 intro i hi
 exact bytesOf_one z 64 _ (by simp [arr] at hi ⊢)
theorem arr_congr {z z' : Nat → Int} (h : ∀ i, i < 64 → z i = z' i) : arr z = arr z' := by
 unfold arr bytesOf
 congr 1
 apply List.map_congr_left
 intro i hi
 rw [h i (by simpa using hi)]
theorem info88 : (Tryz.prog.info? 191).map (fun i => (i.zero, i.size)) = some (some (.agg (arr fun _ => 0)), 64) := by kernel_rfl
theorem zero88 (w : World) : (zeroValue 191).run Tryz.prog w = .ok (.agg (arr fun _ => 0)) w := (zero_of_info info88).1 w
theorem size88 : (Tryz.prog.info? 191).map (·.size) = some 64 := (zero_of_info info88).2
set_option maxHeartbeats 1000000 in
theorem place_any (a : Int) (w : World) (a0 : 0 ≤ a) (a1 : a ≤ 65535) :
  Calls Tryz.prog 93 #[.int .u16 a] w fun e w' => e = .returned (.tuple #[.int .i64 (a % 8192 / 64), .int .i64 (a % 8192 % 64)]) ∧ w = w' := by
 go_enter Tryz.func93, Tryz.ntmps93
 go_wp2
 go_ret2
 exact ⟨rfl, rfl⟩
theorem store_new (W : World) (z z' : Nat → Int) : (storeCells ⟨W.heap.size, 0, none⟩ (arr z').toList).run Tryz.prog (W.alloc (.cells (arr z) 191)) = .ok () (W.alloc (.cells (arr z') 191)) :=
 run_storeCells_new (P := Tryz.prog) W 191 (arr z) (arr z') (by rw [arr_size]; exact size88) (by rw [arr_size, arr_size]) (arr_one z')
theorem load_new (W : World) (z : Nat → Int) : (loadVar 191 ⟨W.heap.size, 0, none⟩).run Tryz.prog (W.alloc (.cells (arr z) 191)) = .ok (.agg (arr z)) (W.alloc (.cells (arr z) 191)) :=
 run_loadVar_new (P := Tryz.prog) W 191 (arr z) 64 5 Tryz.underlying191 (by rw [arr_size]; exact size88)
set_option maxHeartbeats 1000000 in
theorem block_nil (k : Int) (w : World) : Calls Tryz.prog 94 #[.pointer none, .int .i64 k] w fun e w' => e = .returned (.agg (arr fun _ => 0)) ∧ Below w.heap.size w w' := by
 have hz := zero88
 have hst := store_new
 have hsz := arr_size
 go_enter Tryz.func94, Tryz.ntmps94
 go_wp2
 refine bodyPost_ret (v := .agg (arr fun _ => 0)) (results_cell (a := ⟨w.heap.size, 0, none⟩) Tryz.results94 (by rfl) (load_new _ _)) rfl ?_
 exact ⟨rfl, (Below.refl _ _).alloc (Nat.le_refl _) _⟩
/-- Is some byte of a block not 0? How many of the first blocks have such? -/
def nz (f : Nat → Int) (k : Nat) : Bool := (List.range 64).any fun i => f (64 * k + i) != 0
def cnt (f : Nat → Int) : Nat → Nat
 | 0 => 0
 | n + 1 => cnt f n + if nz f n then 1 else 0
def bk (f : Nat → Int) (k : Nat) : Array Value := arr fun i => f (64 * k + i)
abbrev RH : Value → Option (DataW Value × List MemPlace) := fun v => some (.held v, [])
def MV (D : DataW Value) (f : Nat → Int) : Prop :=
 (∀ k : Nat, k < 128 → D.atKey (.int .i64 (k : Int)) (.held (.agg (arr fun _ => 0))) = .held (.agg (bk f k))) ∧ (∀ k : Nat, k < 128 → Maps.has D (.int .i64 (k : Int)) = nz f k) ∧ Maps.size D = cnt f 128
/-- Work memory at g has the bytes f; its blocks stand in the map at block mb. -/
def RM (w : World) (mb : Option Nat) (f : Nat → Int) : Prop := match mb with
 | none => ∀ i, i < 8192 → f i = 0
 | some b => ∃ D, w.ownsMap Tryz.prog 3 RH b 128 D ∧ MV D f
def RD (w : World) (g : Nat) (mb : Option Nat) (f : Nat → Int) : Prop := Blk w g 186 #[.map mb] ∧ RM w mb f
theorem keyed3 : Maps.Keyed Tryz.prog 3 := Maps.int_keyed Tryz.underlying3
theorem key3 (k : Nat) (h : k < 128) : keyOf Tryz.prog 3 (.int .i64 (k : Int)) = some (.int .i64 (k : Int)) := Maps.keyOf_int_mk Tryz.underlying3 (WalkArith.wf_i64 (by omega))
/-- A look-up of a block. -/
theorem look_some {w : World} {b : Nat} {D : DataW Value} {f : Nat → Int} (h : w.ownsMap Tryz.prog 3 RH b 128 D) (hv : MV D f) {k : Nat} (hk : k < 128) :
  (Instr.lookup 184 (.map (some b)) (.int .i64 (k : Int)) false).run Tryz.prog w = .ok (.agg (bk f k)) w := by
 obtain ⟨v, ps, hr, hR⟩ := h.lookup keyed3 Tryz.underlying184 (zero88 w) (zd := .held (.agg (arr fun _ => 0))) (zp := []) rfl (key3 k hk)
 rw [hv.1 k hk] at hR
 simp only [RH, Option.some.injEq, Prod.mk.injEq, DataW.held.injEq] at hR
 rw [hr, hR.1]
theorem look_none {w : World} {f : Nat → Int} (hf : ∀ i, i < 8192 → f i = 0) {k : Nat} (hk : k < 128) :
  (Instr.lookup 184 (.map none) (.int .i64 (k : Int)) false).run Tryz.prog w = .ok (.agg (bk f k)) w := by
 have h := Maps.look_nil (P := Tryz.prog) (w := w) false keyed3 Tryz.underlying184 (zero88 w) (key3 k hk)
 have e : bk f k = arr fun _ => 0 := arr_congr fun i hi => hf _ (by omega)
 rw [e]
 exact h
set_option maxHeartbeats 1000000 in
theorem block_any {w : World} {g : Nat} {mb : Option Nat} {f : Nat → Int} (h : RD w g mb f) (k : Nat) (hk : k < 128) :
  Calls Tryz.prog 94 #[.pointer (some ⟨g, 0, none⟩), .int .i64 k] w fun e w' => e = .returned (.agg (bk f k)) ∧ Below w.heap.size w w' := by
 have hz := zero88
 have hst := store_new
 have hsz := arr_size
 obtain ⟨hg, hm⟩ := h
 have hw1 := hg.alloc (.cells (arr fun _ => 0) 191)
 have c0 : (w.alloc (.cells (arr fun _ => 0) 191)).cell? ⟨g, 0, none⟩ = some (.map mb) := hw1.cell 0
 have hlk : (Instr.lookup 184 (.map mb) (.int .i64 (k : Int)) false).run Tryz.prog (w.alloc (.cells (arr fun _ => 0) 191)) = .ok (.agg (bk f k)) (w.alloc (.cells (arr fun _ => 0) 191)) := by
  cases mb with
  | none => exact look_none hm hk
  | some b => obtain ⟨D, ho, hv⟩ := hm; exact look_some (ho.alloc _) hv hk
 unfold bk at hlk
 clear hg hm hw1
 go_enter Tryz.func94, Tryz.ntmps94
 go_wp2
 refine bodyPost_ret (v := .agg (bk f k)) (results_cell (a := ⟨w.heap.size, 0, none⟩) Tryz.results94 (by rfl) (load_new _ _)) rfl ?_
 exact ⟨rfl, (Below.refl _ _).alloc (Nat.le_refl _) _⟩
end Go.Proofs.YtndhkdcdhpfajaaGreat
namespace Go.Proofs.YtndhkdcdhpfajaaGreat
open Go.RowKit
set_option linter.unusedVariables false
/-- What becomes of a call that lays pieces into an image of S bytes. -/
def MakeR (ps : Nat → Pc) (m S : Nat) (w : World) (e : Ending) (w' : World) : Prop :=
 Below w.heap.size w w' ∧ ((∃ j, j < m ∧ ¬ good S (ps j) ∧ (∀ i, i < j → good S (ps i)) ∧ e = .returned (.tuple #[.slice none 0 0, .agg #[.int .i64 1, .int .i64 j]])) ∨
  ((∀ i, i < m → good S (ps i)) ∧ ∃ g C, e = .returned (.tuple #[.slice (some ⟨g, 0, none⟩) S S, .agg #[.int .i64 0, .int .i64 0]]) ∧ w.heap.size ≤ g ∧ Blk w' g 5 (List.toArray C) ∧ BArr C S (laid ps m)))
theorem u8_info : (Tryz.prog.info? 5).map (fun i => (i.zero, i.size, i.bytes)) = some (some (.int .u8 0), 1, 1) := by kernel_rfl
set_option maxRecDepth 100000 in
theorem make_bytes (n : Nat) (hn : n ≤ 16777216) (w : World) : (Instr.makeSlice 22 (.int .i64 (n : Int)) (.int .i64 (n : Int))).run Tryz.prog w = .ok (.slice (some ⟨w.heap.size, 0, none⟩) n n) (w.alloc (.cells (Array.replicate n (.int .u8 0)) 5)) := by
 obtain ⟨i, hi, hzz⟩ := Option.map_eq_some_iff.1 u8_info
 simp only [Prod.mk.injEq] at hzz
 obtain ⟨hz, hs, hb⟩ := hzz
 have h := run_makeSlice (P := Tryz.prog) w 22 5 i _ Tryz.underlying22 hi hz .i64 .i64 n n (by omega) (by omega) (by rw [hs]; simp; omega) (by rw [hb]; omega) (by omega)
 rw [h]
 simp only [Int.toNat_natCast, hs, Nat.mul_one]
 congr 3
 unfold madeCells
 apply Array.ext
 ·simp
 ·intro i h1 h2; simp [Value.cells, Nat.mod_one]
theorem _root_.Go.RowKit.Below.grown_ {B C : Nat} {a w w' : World} (h : Below B a w) (q : Below C w w') (hBC : B ≤ C := by omega) : Below B a w' := h.trans (q.mono hBC)
theorem good_succ {S : Int} {ps : Nat → Pc} {k : Nat} (h : ∀ i, i < k → good S (ps i)) (g : good S (ps k)) (i : Nat) (hi : i < k + 1) : good S (ps i) := by
 rcases Nat.lt_or_ge i k with a | a
 ·exact h i a
 ·rw [show i = k by omega]; exact g
theorem IRow.src {w : World} {A : Option Addr} {n : Nat} {z : Nat → Int} (h : IRow w .u8 A n z) (hn : 0 < n) : ∃ ad, A = some ad ∧ ∀ j v, (bytesOf z n)[j]? = some v → w.cell? (ad.add j) = some v := by
 obtain ⟨ad, e, _, _, _⟩ := h 0 hn
 refine ⟨ad, e, fun j v hv => ?_⟩
 have hj : j < n := by have := (List.getElem?_eq_some_iff.1 hv).1; rwa [bytesOf_len] at this
 rw [bytesOf_at z n j hj] at hv
 injection hv with hv
 subst hv
 obtain ⟨ae, e2, _, hc, _⟩ := h j hj
 rw [e] at e2
 injection e2 with e2
 subst e2
 exact hc
set_option maxRecDepth 100000 in
set_option maxHeartbeats 2000000 in
theorem make_any (n : Int) (S : Nat) (A : Option Addr) (m c : Nat) (ps : Nat → Pc) (w : World) (h : mayB n = true) (hS : (S : Int) = n * 8192) (hm : m ≤ maxLen) (R : PRow w A m ps) :
  Calls Tryz.prog 91 #[.int .i64 n, .slice A m c] w (MakeR ps m S w) := by
 have hn : 1 ≤ n ∧ n ≤ 128 := of_decide_eq_true h
 have hs1 : S ≤ 1048576 := by omega
 have HS := Lib.hid hS
 unfold maxLen at hm
 have MB := make_bytes S (by omega)
 have e1 : n * 8192 = (S : Int) := hS.symm
 clear hS
 go_enter Tryz.func91, Tryz.ntmps91
 go_wp2_with (go_at_call 145; refine (may_any _ _).mono ?_; rintro e w' ⟨rfl, rfl⟩)
 have hF0 : Blk ((w.alloc (.cells #[.int .i64 0, .int .i64 0] 37)).alloc (.cells (Array.replicate S (.int .u8 0)) 5)) w.heap.size 37 #[.int .i64 0, .int .i64 0] := (Blk.new w _ _).alloc _
 have hG0 : Blk ((w.alloc (.cells #[.int .i64 0, .int .i64 0] 37)).alloc (.cells (Array.replicate S (.int .u8 0)) 5)) (w.heap.size + 1) 5 (List.toArray (List.replicate S (.int .u8 0))) := by
  have := Blk.new (w.alloc (.cells #[.int .i64 0, .int .i64 0] 37)) 5 (Array.replicate S (.int .u8 0))
  simpa using this
 have hB0 : Below w.heap.size w ((w.alloc (.cells #[.int .i64 0, .int .i64 0] 37)).alloc (.cells (Array.replicate S (.int .u8 0)) 5)) := by go_grown
 generalize (w.alloc (.cells #[.int .i64 0, .int .i64 0] 37)).alloc (.cells (Array.replicate S (.int .u8 0)) 5) = w1 at *
 clear MB e1
 go_loopw [18] (fun i wr => ∃ k : Nat, k ≤ m ∧ i = .int .i64 k ∧ Blk wr w.heap.size 37 #[.int .i64 0, .int .i64 0] ∧ Below w.heap.size w wr ∧ Hid (∃ C, Blk wr (w.heap.size + 1) 5 (List.toArray C) ∧ BArr C S (laid ps k) ∧ ∀ i, i < k → good S (ps i))) (fun i _ => m - (intOf i).toNat)
 case atStart => exact ⟨0, by omega, rfl, hF0, hB0, Lib.hid ⟨_, hG0, BArr.zero S, fun i hi => absurd hi (by omega)⟩⟩
 case round =>
  obtain ⟨k, hk, rfl, hF, hB, HC⟩ := hrel
  have zB := hB.size
  obtain ⟨C, hG, hA, hgd⟩ := HC.out
  have lG := hG.lt
  have f0 := hF.cell 0
  have f1 := hF.cell 1
  have fz := hF.frozen
  simp only [List.getElem?_toArray, List.getElem?_cons_zero, List.getElem?_cons_succ] at f0 f1
  by_cases hlt : k < m
  ·obtain ⟨ad, rfl, hl, c0, c1, ok⟩ := (R.keep hB) k hlt
   obtain ⟨p, hp⟩ : ∃ p, ps k = p := ⟨_, rfl⟩
   have hA' : good S p → BArr (splice C p.at_.toNat (bytesOf p.z p.n)) S (laid ps (k + 1)) := by rw [← hp]; exact hA.lay
   rw [hp] at c0 c1 ok
   have c1' := cell_next c1
   have HP := Lib.hid hp
   obtain ⟨wa, hnc, hcm, RB⟩ := ok
   have b64 := bounds_i64 wa
   unfold maxLen at hcm
   by_cases g : good S p
   ·obtain ⟨a, A', n', c', z⟩ := p
    obtain ⟨off, rfl⟩ := Int.eq_ofNat_of_zero_le g.1
    have hA2 := hA' g
    obtain ⟨g0, g1⟩ := g
    simp only at c0 c1' hA2 hnc hcm RB HP g0 g1 b64
    have HA2 := Lib.hid hA2
    have GG : good S ⟨off, A', n', c', z⟩ := ⟨g0, g1⟩
    clear hA2 hp c1 wa hA'
    go_wp2_with fail
    refine (within_yes ⟨off, A', n', c', z⟩ S _ (by omega) (by omega) GG (by show n' ≤ maxLen; unfold maxLen; omega)).mono ?_
    rintro e w2 ⟨rfl, hb2⟩
    have hP2 := (Blk.new wr 141 #[.int .i64 (off : Int), .slice A' n' c']).below hb2 (by simp)
    have hG2 := (hG.alloc _).below hb2 (by simp; omega)
    have hF2 := (hF.alloc _).below hb2 (by simp; omega)
    have RB2 := (RB.keep ((Below.refl wr.heap.size wr).alloc (Nat.le_refl _) (.cells #[.int .i64 (off : Int), .slice A' n' c'] 141))).keep hb2
    have hB2 : Below w.heap.size w w2 := (hB.alloc zB _).trans (hb2.mono (by simp; omega))
    have p0 := hP2.cell 0
    have p1 := hP2.cell 1
    simp only [List.getElem?_toArray, List.getElem?_cons_zero, List.getElem?_cons_succ] at p0 p1
    have k0 : (off : Int) ≤ S := by omega
    clear hb2 f0 f1 fz RB c0 c1' hP2
    go_wp2_with fail
    by_cases hoS : off = S
    ·subst hoS
     obtain rfl : n' = 0 := by omega
     go_still_tail 6, (by kernel_rfl)
     change wpList _ _ _ _ _ w2.drew
     have hG3 : Blk w2.drew (w.heap.size + 1) 5 C.toArray := hG2
     have hF3 : Blk w2.drew w.heap.size 37 #[.int .i64 0, .int .i64 0] := hF2
     have hB3 : Below w.heap.size w w2.drew := hB2.drew
     generalize w2.drew = w3 at *
     refine wpList_copy_splice rfl (.tmp 33) (.tmp 35) 22 22 rfl 5 Tryz.underlying22 (by kernel_rfl) _ _ _ _ _ _ rfl rfl (w.heap.size + 1) off C 5 hG3 (bytesOf z 0) (by simp [bytesOf]) (fun h => by simp [bytesOf] at h) (by rw [bytesOf_len, hA.1]; omega) (bytesOf_one _ _) (w.heap.size + 1) w3 (Below.refl _ _) (Nat.le_refl _) ?_
     intro w4 HG4 hB4
     have hG4 : Blk w4 (w.heap.size + 1) 5 (splice C off (bytesOf z 0)).toArray := HG4
     have hF4 := hF3.below hB4 (by omega)
     have hB5 := (hB3.grown_ hB4)
     go_wp2_with fail
     go_roundw
     case rel => exact ⟨k + 1, by omega, by go_num, hF4, hB5, Lib.hid ⟨_, hG4, HA2.out, fun i hi => good_succ hgd (by rw [HP.out]; exact GG) i hi⟩⟩
     case measure => simp [intOf]; omega
    ·have hne : ¬ S = off := fun h => hoS h.symm
     go_still_tail 6, (by kernel_rfl)
     change wpList _ _ _ _ _ w2.drew
     have hG3 : Blk w2.drew (w.heap.size + 1) 5 C.toArray := hG2
     have hF3 : Blk w2.drew w.heap.size 37 #[.int .i64 0, .int .i64 0] := hF2
     have hB3 : Below w.heap.size w w2.drew := hB2.drew
     have RB3 : IRow w2.drew .u8 A' n' z := RB2
     generalize w2.drew = w3 at *
     refine wpList_copy_splice rfl (.tmp 33) (.tmp 35) 22 22 rfl 5 Tryz.underlying22 (by kernel_rfl) _ _ _ _ _ _ rfl rfl (w.heap.size + 1) off C 5 hG3 (bytesOf z n') (by rw [bytesOf_len]; exact (Nat.min_eq_left (by omega)).symm) (fun h => ⟨rfl, RB3.src (by rw [bytesOf_len] at h; exact h)⟩) (by rw [bytesOf_len, hA.1]; omega) (bytesOf_one _ _) (w.heap.size + 1) w3 (Below.refl _ _) (Nat.le_refl _) ?_
     intro w4 HG4 hB4
     have hG4 : Blk w4 (w.heap.size + 1) 5 (splice C off (bytesOf z n')).toArray := HG4
     have hF4 := hF3.below hB4 (by omega)
     have hB5 := (hB3.grown_ hB4)
     go_wp2_with fail
     go_roundw
     case rel => exact ⟨k + 1, by omega, by go_num, hF4, hB5, Lib.hid ⟨_, hG4, HA2.out, fun i hi => good_succ hgd (by rw [HP.out]; exact GG) i hi⟩⟩
     case measure => simp [intOf]; omega
   ·have BG : ¬ good S (ps k) := by rw [hp]; exact g
    go_wp2_with fail
    refine (within_no p S _ (by omega) (by omega) g (by unfold maxLen; omega) (by omega)).mono ?_
    rintro e w2 ⟨rfl, hb2⟩
    have hF2 := (hF.alloc (.cells #[.int .i64 p.at_, .slice p.A p.n p.c] 141)).below hb2 (by simp; omega)
    have hB2 : Below w.heap.size w w2 := (hB.alloc zB _).trans (hb2.mono (by simp; omega))
    clear f0 f1 fz c0 c1 c1' hb2
    have f0 := hF2.cell 0
    have f1 := hF2.cell 1
    have fz := hF2.frozen
    simp only [List.getElem?_toArray, List.getElem?_cons_zero, List.getElem?_cons_succ] at f0 f1
    go_wp2_with fail
    refine bodyPost_ret (v := .tuple #[.slice none 0 0, .agg #[.int .i64 1, .int .i64 k]]) (by simp [results, Tryz.results91, go_sem, f0, f1]) rfl ?_
    exact ⟨(hB2.setCell (p := ⟨w.heap.size, 0, none⟩) (Nat.le_refl _) _).setCell (p := ⟨w.heap.size, 1, none⟩) (Nat.le_refl _) _, Or.inl ⟨k, hlt, BG, hgd, rfl⟩⟩
  ·obtain rfl : k = m := by omega
   go_wp2_with fail
   have hG' : Blk ((wr.setCell ⟨w.heap.size, 0, none⟩ (.int .i64 0)).setCell ⟨w.heap.size, 1, none⟩ (.int .i64 0)) (w.heap.size + 1) 5 C.toArray := (hG.far (by simp) _).far (by simp) _
   have hB' : Below w.heap.size w ((wr.setCell ⟨w.heap.size, 0, none⟩ (.int .i64 0)).setCell ⟨w.heap.size, 1, none⟩ (.int .i64 0)) := (hB.setCell (p := ⟨w.heap.size, 0, none⟩) (Nat.le_refl _) _).setCell (p := ⟨w.heap.size, 1, none⟩) (Nat.le_refl _) _
   refine bodyPost_ret (v := .tuple #[.slice (some ⟨w.heap.size + 1, 0, none⟩) S S, .agg #[.int .i64 0, .int .i64 0]]) (by simp [results, Tryz.results91, go_sem, f0, f1]) rfl ?_
   exact ⟨hB', Or.inr ⟨hgd, _, C, rfl, by omega, hG', hA⟩⟩
end Go.Proofs.YtndhkdcdhpfajaaGreat
namespace Go.Proofs.YtndhkdcdhpfajaaGreat
open Go.RowKit
set_option linter.unusedVariables false
end Go.Proofs.YtndhkdcdhpfajaaGreat
