/-
  What the reference's Program of cart answers: the same as cart; it only makes memory.
-/
import Derived.Test.YtcckojleeojpiaaCart10
namespace Go.Proofs.Ytcckojleeojpiaa
open Go.RowKit
set_option linter.unusedVariables false
def codeF (k j : Nat) (z : Nat → Int) (i : Nat) : Int := if k ≤ i ∧ i < k + j then z (i - k) else 0
theorem codeF_step {C : List Value} {k j : Nat} {z : Nat → Int} (h : BArr C 8192 (codeF k j z)) (hj : k + j < 8192) : BArr (C.set (k + j) (.int .u8 (z j))) 8192 (codeF k (j + 1) z) := by
  refine (h.set_ (k + j) hj (z j)).congr fun i hi => ?_
  unfold codeF
  by_cases c : i = k + j
  · subst c
    rw [if_pos rfl, if_pos (by omega), show k + j - k = j by omega]
  · rw [if_neg c]
    by_cases d : k ≤ i ∧ i < k + j
    · rw [if_pos d, if_pos (by omega)]
    · rw [if_neg d, if_neg (by omega)]
def goesF (f : Nat → Int) (gs : Nat → Int) (j : Nat) (i : Nat) : Int := if 8182 ≤ i ∧ i < 8182 + 2 * j then wz gs (i - 8182) else f i
theorem goesF_step {C : List Value} {f gs : Nat → Int} {j : Nat} (h : BArr C 8192 (goesF f gs j)) (hj : j < 5) (b0 : 0 ≤ gs j) (b1 : gs j ≤ 65535) :
    BArr ((C.set (8182 + 2 * j) (.int .u8 (gs j % 256))).set (8183 + 2 * j) (.int .u8 (gs j / 256))) 8192 (goesF f gs (j + 1)) := by
  have e0 : wz gs (2 * j) = gs j % 256 := by rw [wz_even, IntKind.wrap_u8]
  have e1 : wz gs (2 * j + 1) = gs j / 256 := by rw [wz_odd, IntKind.wrap_u8]; omega
  refine ((h.set_ (8182 + 2 * j) (by omega) (gs j % 256)).set_ (8183 + 2 * j) (by omega) (gs j / 256)).congr fun i hi => ?_
  unfold goesF
  by_cases c : i = 8183 + 2 * j
  · subst c
    rw [if_pos rfl, if_pos (by omega), show 8183 + 2 * j - 8182 = 2 * j + 1 by omega, e1]
  · rw [if_neg c]
    by_cases c2 : i = 8182 + 2 * j
    · subst c2
      rw [if_pos rfl, if_pos (by omega), show 8182 + 2 * j - 8182 = 2 * j by omega, e0]
    · rw [if_neg c2]
      by_cases d : 8182 ≤ i ∧ i < 8182 + 2 * j
      · rw [if_pos d, if_pos (by omega)]
      · rw [if_neg d, if_neg (by omega)]
theorem prog_all (k n : Nat) (z gs : Nat → Int) (i : Nat) (hi : i < 8192) : goesF (codeF k n z) gs 5 i = progF k n z gs i := by
  unfold goesF codeF progF
  by_cases c : 8182 ≤ i
  · have c2 : 8182 ≤ i ∧ i < 8192 := by omega
    rw [if_pos (show 8182 ≤ i ∧ i < 8182 + 2 * 5 from c2)]
  · have c2 : ¬ (8182 ≤ i ∧ i < 8192) := by omega
    rw [if_neg (show ¬ (8182 ≤ i ∧ i < 8182 + 2 * 5) from c2)]
theorem set_arr2 (C : List Value) (i : Nat) (u : Value) : (List.toArray C).setIfInBounds i u = List.toArray (C.set i u) := by simp
set_option maxHeartbeats 1000000 in
theorem rprogram_long (o : Int) (A : Option Addr) (n c : Nat) (gs : Nat → Int) (w : World) (o0 : 0 ≤ o) (o1 : o ≤ 65535) (hn : n ≤ 140737488355328) (h : 8182 < o % 8192 + n) :
    Calls Try.prog 39 #[.int .u16 o, .slice A n c, .agg #[.int .u16 (gs 0), .int .u16 (gs 1), .int .u16 (gs 2), .int .u16 (gs 3), .int .u16 (gs 4)]] w fun e w' => e = .returned (.tuple #[.slice none 0 0, .int .i64 2]) ∧ Below w.heap.size w w' := by
  go_enter Try.func39, Try.ntmps39
  go_wp2_with fail
  go_ret2
  exact ⟨rfl, by go_grown⟩
set_option maxRecDepth 100000 in
set_option maxHeartbeats 4000000 in
theorem rprogram_any {w : World} (o : Int) (k : Nat) (A : Option Addr) (n c : Nat) (z gs : Nat → Int) (hc : n ≤ c) (hcm : c ≤ maxLen) (R : IRow w .u8 A n z) (o0 : 0 ≤ o) (o1 : o ≤ 65535) (hk : o % 8192 = k) (h : k + n ≤ 8182) (hgs : ∀ j, 0 ≤ gs j ∧ gs j ≤ 65535) :
    Calls Try.prog 39 #[.int .u16 o, .slice A n c, .agg #[.int .u16 (gs 0), .int .u16 (gs 1), .int .u16 (gs 2), .int .u16 (gs 3), .int .u16 (gs 4)]] w (ProgR (progF k n z gs) w) := by
  have d1 : ¬ (8182 : Int) < (k : Int) + n := by omega
  have GS := Lib.hid hgs
  have MB : ∀ W : World, (Instr.makeSlice 42 (.int .i64 8192) (.int .i64 8192)).run Try.prog W = .ok (.slice (some ⟨W.heap.size, 0, none⟩) 8192 8192) (W.alloc (.cells (Array.replicate 8192 (.int .u8 0)) 5)) := fun W => make_bytes 8192 (by omega) W
  clear hc hcm hgs
  go_enter Try.func39, Try.ntmps39
  go_wp2_with fail
  have hV0 : Blk ((w.alloc (.cells #[.int .u16 (gs 0), .int .u16 (gs 1), .int .u16 (gs 2), .int .u16 (gs 3), .int .u16 (gs 4)] 55)).alloc (.cells (Array.replicate 8192 (.int .u8 0)) 5)) w.heap.size 55 (aggW gs) := (Blk.new w _ _).alloc _
  have hG0 : Blk ((w.alloc (.cells #[.int .u16 (gs 0), .int .u16 (gs 1), .int .u16 (gs 2), .int .u16 (gs 3), .int .u16 (gs 4)] 55)).alloc (.cells (Array.replicate 8192 (.int .u8 0)) 5)) (w.heap.size + 1) 5 (List.toArray (List.replicate 8192 (.int .u8 0))) := by
    have := Blk.new (w.alloc (.cells #[.int .u16 (gs 0), .int .u16 (gs 1), .int .u16 (gs 2), .int .u16 (gs 3), .int .u16 (gs 4)] 55)) 5 (Array.replicate 8192 (.int .u8 0))
    rw [World.size_alloc] at this
    rw [List.toArray_replicate]; exact this
  have hB0 : Below w.heap.size w ((w.alloc (.cells #[.int .u16 (gs 0), .int .u16 (gs 1), .int .u16 (gs 2), .int .u16 (gs 3), .int .u16 (gs 4)] 55)).alloc (.cells (Array.replicate 8192 (.int .u8 0)) 5)) := by go_grown
  generalize (w.alloc (.cells #[.int .u16 (gs 0), .int .u16 (gs 1), .int .u16 (gs 2), .int .u16 (gs 3), .int .u16 (gs 4)] 55)).alloc (.cells (Array.replicate 8192 (.int .u8 0)) 5) = w1 at *
  clear MB d1
  go_loopw [10] (fun i wr => ∃ j : Nat, j ≤ n ∧ i = .int .i64 j ∧ Blk wr w.heap.size 55 (aggW gs) ∧ Below w.heap.size w wr ∧ Hid (∃ C, Blk wr (w.heap.size + 1) 5 (List.toArray C) ∧ BArr C 8192 (codeF k j z))) (fun i _ => n - (intOf i).toNat)
  case atStart => exact ⟨0, by omega, rfl, hV0, hB0, Lib.hid ⟨_, hG0, (BArr.zero 8192).congr fun i hi => by unfold codeF; rw [if_neg (by omega)]⟩⟩
  case round =>
    obtain ⟨j, hj, rfl, hV, hB, HC⟩ := hrel
    obtain ⟨C, hG, hA⟩ := HC.out
    by_cases hlt : j < n
    · obtain ⟨ad, rfl, hl, hc, _⟩ := (R.keep hB) j hlt
      have s0 : wr.cell? ⟨w.heap.size + 1, k + j, none⟩ = some (.int .u8 (codeF k j z (k + j))) := by
        rw [hG.cell, List.getElem?_toArray]; exact hA.2 (k + j) (by omega)
      have s1 := hG.frozen (k + j)
      have i6 : ((k : Int) + j).toNat = k + j := by omega
      have HA := Lib.hid (codeF_step hA (by omega))
      clear hl
      go_wp2_with fail
      go_roundw
      case rel => exact ⟨j + 1, by omega, by go_num, hV.far (by simp) _, hB.setCell (p := ⟨w.heap.size + 1, k + j, none⟩) (by simp) _, Lib.hid ⟨_, by have := hG.set_ (k + j) (.int .u8 (z j)); rw [set_arr2] at this; exact this, HA.out⟩⟩
      case measure => simp [intOf]; omega
    · obtain rfl : j = n := by omega
      have HA0 : Hid (BArr C 8192 (goesF (codeF k j z) gs 0)) := Lib.hid (hA.congr fun i hi => by unfold goesF; rw [if_neg (by omega)])
      obtain ⟨wo, rfl⟩ : ∃ wo : World, wo = wr := ⟨_, rfl⟩
      go_wp2_with fail
      go_loopw [11] (fun i wr => ∃ q : Nat, q ≤ 5 ∧ i = .int .i64 q ∧ Blk wr w.heap.size 55 (aggW gs) ∧ Below w.heap.size w wr ∧ Hid (∃ C, Blk wr (w.heap.size + 1) 5 (List.toArray C) ∧ BArr C 8192 (goesF (codeF k j z) gs q))) (fun i _ => 5 - (intOf i).toNat)
      case atStart => exact ⟨0, by omega, rfl, hV, hB, Lib.hid ⟨C, hG, HA0.out⟩⟩
      case round =>
        obtain ⟨q, hq, rfl, hV, hB, HC⟩ := hrel
        obtain ⟨D, hG, hD⟩ := HC.out
        by_cases hlt : q < 5
        · have v0 : wr.cell? ⟨w.heap.size, q, none⟩ = some (.int .u16 (gs q)) := by rw [hV.cell]; exact aggW_at gs q hlt
          obtain ⟨g0, g1⟩ := GS.out q
          have hD2 := Lib.hid (goesF_step hD hlt g0 g1)
          have hG1 : Blk (wr.setCell ⟨w.heap.size + 1, 8182 + 2 * q, none⟩ (.int .u8 (gs q % 256))) (w.heap.size + 1) 5 (List.toArray (D.set (8182 + 2 * q) (.int .u8 (gs q % 256)))) := by
            have := hG.set_ (8182 + 2 * q) (.int .u8 (gs q % 256)); rw [set_arr2] at this; exact this
          have hG2 := Lib.hid (hG1.set_ (8183 + 2 * q) (.int .u8 (gs q / 256)))
          clear hG1
          have t0 : wr.cell? ⟨w.heap.size + 1, 8182 + 2 * q, none⟩ = some (.int .u8 (goesF (codeF k j z) gs q (8182 + 2 * q))) := by
            rw [hG.cell, List.getElem?_toArray]; exact hD.2 _ (by omega)
          have t1 : wr.cell? ⟨w.heap.size + 1, 8183 + 2 * q, none⟩ = some (.int .u8 (goesF (codeF k j z) gs q (8183 + 2 * q))) := by
            rw [hG.cell, List.getElem?_toArray]; exact hD.2 _ (by omega)
          have f0 := hG.frozen
          have m0 : gs q % 256 ≤ 255 := by omega
          have m1 : gs q / 256 ≤ 255 := by omega
          have i1 : (8182 + 2 * (q : Int)).toNat = 8182 + 2 * q := by omega
          have i2 : (8183 + 2 * (q : Int)).toNat = 8183 + 2 * q := by omega
          have e2 : (gs q).tdiv 256 = gs q / 256 := Int.tdiv_eq_ediv_of_nonneg g0
          have e3 : IntKind.u16.wrap (gs q / 256) = gs q / 256 := IntWalk.u16_in _ (by omega)
          have e4 : gs q / 256 % 256 = gs q / 256 := by omega
          go_wp2_with fail
          go_roundw
          case rel => exact ⟨q + 1, by omega, by go_num, (hV.far (by simp) _).far (by simp) _, (hB.setCell (p := ⟨w.heap.size + 1, 8182 + 2 * q, none⟩) (by simp) _).setCell (p := ⟨w.heap.size + 1, 8183 + 2 * q, none⟩) (by simp) _, Lib.hid ⟨_, by have := hG2.out; rw [set_arr2] at this; exact this, hD2.out⟩⟩
          case measure => simp [intOf]; omega
        · obtain rfl : q = 5 := by omega
          go_wp2_with fail
          go_ret2
          exact ⟨hB, w.heap.size + 1, D, rfl, by omega, hG, hD.congr fun i hi => prog_all k j z gs i hi⟩
end Go.Proofs.Ytcckojleeojpiaa
