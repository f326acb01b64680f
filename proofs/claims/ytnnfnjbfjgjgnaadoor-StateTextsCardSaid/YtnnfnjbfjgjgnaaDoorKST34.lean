/-
  Texts of these proofs, one behind the other: Rst5, St13.
-/
import Derived.Test.YtnnfnjbfjgjgnaaDoorKST33
import Derived.Laws.StructEq
namespace Go.Proofs.YtnnfnjbfjgjgnaaDoor
open Go.RowKit
set_option linter.unusedVariables false
set_option linter.unusedSimpArgs false
set_option maxRecDepth 100000
def tw (line : ByteArray) (a : Nat) : Int := (fhA (line.extract a (a + 2))).1
theorem tw_bd (line : ByteArray) (a : Nat) : 0 ≤ tw line a ∧ tw line a ≤ 255 := by
  have := fhA_bd (line.extract a (a + 2)) 2 (by rw [ByteArray.size_extract]; omega)
  unfold tw
  omega
set_option maxHeartbeats 4000000 in
theorem rstwo_any (line : ByteArray) (hs : line.size = 74) (a : Nat) (ha : a + 2 ≤ 74) (w : World) : Calls Tryd.prog 34 #[.string line, .int .i64 (a : Int)] w fun e w' => e = .returned (.int .u8 (tw line a)) ∧ Below w.heap.size w w' := by
  have hb := tw_bd line a
  have hT : tw line a = (fhA (line.extract a (a + 2))).1 := rfl
  have a0 : (0 : Int) ≤ a := by omega
  have a1 : (a : Int) + 2 ≤ 74 := by omega
  have hz : (line.size : Int) = 74 := by omega
  have hsz : (line.extract a (a + 2)).size ≤ 1000 := by rw [ByteArray.size_extract]; omega
  obtain ⟨X, hX⟩ : ∃ X, tw line a = X := ⟨_, rfl⟩
  rw [hX] at hb hT ⊢
  have hsl : ∀ W : World, (Instr.slice 9 (.string line) (some (.int .i64 (a : Int))) (some (.int .i64 ((a : Int) + 2))) none).run Tryd.prog W = .ok (.string (line.extract a (a + 2))) W := fun W => by
    rw [run_slice_string_if W _ line .i64 .i64 _ _ Tryd.underlying9, if_pos (by omega), if_pos (by omega), show ((a : Int)).toNat = a by omega, show ((a : Int) + 2).toNat = a + 2 by omega]
  obtain ⟨s, hs'⟩ : ∃ s, line.extract a (a + 2) = s := ⟨_, rfl⟩
  rw [hs'] at hT hsz hsl
  obtain ⟨x, hx⟩ : ∃ x, fhA s = x := ⟨_, rfl⟩
  obtain ⟨x1, x2⟩ := x
  rw [hx] at hT
  have hw : IntKind.u8.wrap x1 = x1 := IntWalk.u8_in _ (by rw [← show X = x1 from hT]; omega)
  have HX := Lib.hid hx
  have HT : Hid (X = x1) := Lib.hid hT
  have HZ := Lib.hid hsz
  clear hX hT hx hs' hsz hs hb
  go_enter Tryd.func34, Tryd.ntmps34
  go_wp2_with fail
  refine (rfromhex_any s _ (by have := HZ.out; unfold maxLen; omega)).mono ?_
  rw [HX.out]
  rintro e w1 ⟨rfl, hb⟩
  have HB := Lib.hid hb
  clear hb
  go_wp2_with fail
  go_ret
  exact ⟨by rw [HT.out]; rfl, HB.out⟩
def upd (r : Nat → Int) (i : Nat) (v : Int) : Nat → Int := fun j => if j = i then v else r j
theorem stA_u8 (r : Nat → Int) (i : Nat) (h : i < 16) (h5 : i ≠ 5) (h15 : i ≠ 15) (v : Int) : (stA r).setIfInBounds i (.int .u8 v) = stA (upd r i v) := by
  match i, h, h5, h15 with
  | 0, _, _, _ | 1, _, _, _ | 2, _, _, _ | 3, _, _, _ | 4, _, _, _ | 6, _, _, _ | 7, _, _, _ | 8, _, _, _ | 9, _, _, _ | 10, _, _, _ | 11, _, _, _ | 12, _, _, _ | 13, _, _, _ | 14, _, _, _ => rfl
  | 5, _, h, _ => exact absurd rfl h
  | 15, _, _, h => exact absurd rfl h
  | k + 16, h, _, _ => exact absurd h (by omega)
theorem stA_pc (r : Nat → Int) (v : Int) : (stA r).setIfInBounds 5 (.int .u16 v) = stA (upd r 5 v) := rfl
theorem stA_f (r : Nat → Int) (b : Bool) : (stA r).setIfInBounds 15 (.bool b) = stA (upd r 15 (if b then 1 else 0)) := by cases b <;> rfl
/-- So many pages. -/
def pgs (line : ByteArray) (r : Nat → Int) (q : Nat) : Nat → Int := fun j => if 6 ≤ j ∧ j < 6 + q then tw line (41 + 3 * (j - 6)) else r j
theorem pgs_set (line : ByteArray) (r : Nat → Int) (q : Nat) (hq : q < 8) : (stA (pgs line r q)).setIfInBounds (6 + q) (.int .u8 (tw line (41 + 3 * q))) = stA (pgs line r (q + 1)) := by
  rw [stA_set _ _ hq]
  exact stA_congr fun j _ => by
    unfold pgs
    by_cases e : j = 6 + q
    · subst e; rw [if_pos rfl, if_pos (by omega), show 6 + q - 6 = q by omega]
    · rw [if_neg e]
      by_cases h : 6 ≤ j ∧ j < 6 + q
      · rw [if_pos h, if_pos (by omega)]
      · rw [if_neg h, if_neg (by omega)]
/-- What the reference reads. -/
def rrV (line : ByteArray) : Nat → Int
  | 0 => tw line 2 | 1 => tw line 7 | 2 => tw line 12 | 3 => tw line 17 | 4 => (rdI (line.extract 22 30)).1 | 5 => tw line 34 * 256 + tw line 36
  | 6 => tw line 41 | 7 => tw line 44 | 8 => tw line 47 | 9 => tw line 50 | 10 => tw line 53 | 11 => tw line 56 | 12 => tw line 59 | 13 => tw line 62
  | 14 => tw line 67 | _ => if line.extract 70 74 = fastS then 1 else 0
theorem rrV_ok (line : ByteArray) : StOk (rrV line) := fun i hi => by
  match i, hi with
  | 0, _ | 1, _ | 2, _ | 3, _ | 6, _ | 7, _ | 8, _ | 9, _ | 10, _ | 11, _ | 12, _ | 13, _ | 14, _ => exact tw_bd _ _
  | 4, _ => exact rdI_bd _
  | 5, _ =>
    have a := tw_bd line 34
    have b := tw_bd line 36
    show 0 ≤ tw line 34 * 256 + tw line 36 ∧ tw line 34 * 256 + tw line 36 ≤ 65535
    omega
  | 15, _ =>
    show 0 ≤ (if line.extract 70 74 = fastS then (1 : Int) else 0) ∧ (if line.extract 70 74 = fastS then (1 : Int) else 0) ≤ 1
    split <;> decide
  | k + 16, h => exact absurd h (by omega)
def rsR (line : ByteArray) : Nat → Int := if line.size = 74 ∧ txB (rrV line) 16 = line then rrV line else fun _ => 0
def rsE (line : ByteArray) : Int := if line.size = 74 ∧ txB (rrV line) 16 = line then 0 else 3
set_option maxHeartbeats 16000000 in
theorem rsread_any (line : ByteArray) (w : World) : Calls Tryd.prog 15 #[.string line] w fun e w' => e = .returned (.tuple #[.agg (stA (rsR line)), .int .i64 (rsE line)]) ∧ Below w.heap.size w w' := by
  by_cases hs : line.size = 74
  · have HS := Lib.hid hs
    obtain ⟨E, hE⟩ : ∃ E, rsE line = E := ⟨_, rfl⟩
    obtain ⟨X, hX⟩ : ∃ X, stA (rsR line) = X := ⟨_, rfl⟩
    rw [hE, hX]
    have HEX := Lib.hid (And.intro hE hX)
    clear hE hX
    have hz : (line.size : Int) = 74 := by omega
    obtain ⟨x, hx4⟩ : ∃ x, rdI (line.extract 22 30) = x := ⟨_, rfl⟩
    obtain ⟨x4, y4⟩ := x
    have HX4 := Lib.hid hx4
    obtain ⟨x34, hx34⟩ : ∃ x, tw line 34 = x := ⟨_, rfl⟩
    obtain ⟨x36, hx36⟩ : ∃ x, tw line 36 = x := ⟨_, rfl⟩
    have b34 := tw_bd line 34
    have b36 := tw_bd line 36
    rw [hx34] at b34
    rw [hx36] at b36
    have HX34 := Lib.hid hx34
    have HX36 := Lib.hid hx36
    have g1 : IntKind.u16.wrap x34 = x34 := IntWalk.u16_in _ (by omega)
    have g2 : IntKind.u16.wrap x36 = x36 := IntWalk.u16_in _ (by omega)
    have g3 : IntKind.u16.wrap (x34 * 256) = x34 * 256 := IntWalk.u16_in _ (by omega)
    have g4 : IntKind.u16.wrap (x34 * 256 + x36) = x34 * 256 + x36 := IntWalk.u16_in _ (by omega)
    have Z : Hid (Blk ((w.alloc (.cells #[.int .u8 0, .int .u8 0, .int .u8 0, .int .u8 0, .int .u8 0, .int .u16 0, .int .u8 0, .int .u8 0, .int .u8 0, .int .u8 0, .int .u8 0, .int .u8 0, .int .u8 0, .int .u8 0, .int .u8 0, .bool false] 25)).alloc (.cells #[.int .u8 0, .int .u8 0, .int .u8 0, .int .u8 0, .int .u8 0, .int .u16 0, .int .u8 0, .int .u8 0, .int .u8 0, .int .u8 0, .int .u8 0, .int .u8 0, .int .u8 0, .int .u8 0, .int .u8 0, .bool false] 25)) w.heap.size 25 (stA fun _ => 0)) := Lib.hid ((Blk.new w _ _).alloc _)
    have K : Hid (Blk ((w.alloc (.cells #[.int .u8 0, .int .u8 0, .int .u8 0, .int .u8 0, .int .u8 0, .int .u16 0, .int .u8 0, .int .u8 0, .int .u8 0, .int .u8 0, .int .u8 0, .int .u8 0, .int .u8 0, .int .u8 0, .int .u8 0, .bool false] 25)).alloc (.cells #[.int .u8 0, .int .u8 0, .int .u8 0, .int .u8 0, .int .u8 0, .int .u16 0, .int .u8 0, .int .u8 0, .int .u8 0, .int .u8 0, .int .u8 0, .int .u8 0, .int .u8 0, .int .u8 0, .int .u8 0, .bool false] 25)) (w.heap.size + 1) 25 (stA fun _ => 0)) := Lib.hid (Blk.new_ (by simp))
    have B : Hid (Below w.heap.size w ((w.alloc (.cells #[.int .u8 0, .int .u8 0, .int .u8 0, .int .u8 0, .int .u8 0, .int .u16 0, .int .u8 0, .int .u8 0, .int .u8 0, .int .u8 0, .int .u8 0, .int .u8 0, .int .u8 0, .int .u8 0, .int .u8 0, .bool false] 25)).alloc (.cells #[.int .u8 0, .int .u8 0, .int .u8 0, .int .u8 0, .int .u8 0, .int .u16 0, .int .u8 0, .int .u8 0, .int .u8 0, .int .u8 0, .int .u8 0, .int .u8 0, .int .u8 0, .int .u8 0, .int .u8 0, .bool false] 25))) := Lib.hid (((Below.refl _ w).alloc (Nat.le_refl _) _).alloc (by simp) _)
    clear hs hx4 hx34 hx36
    go_enter Tryd.func15, Tryd.ntmps15
    go_upto_region 4 with fail
    generalize (w.alloc _).alloc _ = w2 at *
    go_wp2_with fail
    refine (rstwo_any line HS.out 2 (by decide) _).mono ?_
    rintro e w3 ⟨rfl, b⟩
    have hk := K.out.below b K.out.lt
    have cx : w3.cell? ⟨w.heap.size + 1, 0, none⟩ = some (.int .u8 _) := hk.cell 0
    have fx := hk.frozen 0
    have K' := Lib.hid ((stA_u8 (fun _ => 0) 0 (by decide) (by decide) (by decide) (tw line 2)) ▸ hk.set_ 0 (.int .u8 (tw line 2)))
    have Z' := Lib.hid ((Z.out.below b Z.out.lt).far (p := ⟨w.heap.size + 1, 0, none⟩) (show w.heap.size ≠ w.heap.size + 1 by omega) (.int .u8 (tw line 2)))
    have B' := Lib.hid ((B.out.trans (b.mono B.out.size)).setCell (p := ⟨w.heap.size + 1, 0, none⟩) (by show w.heap.size ≤ w.heap.size + 1; omega) (.int .u8 (tw line 2)))
    clear b hk K Z B
    have K := K'
    have Z := Z'
    have B := B'
    clear K' Z' B'
    go_wp2_with fail
    clear cx fx
    refine (rstwo_any line HS.out 7 (by decide) _).mono ?_
    rintro e w4 ⟨rfl, b⟩
    have hk := K.out.below b K.out.lt
    have cx : w4.cell? ⟨w.heap.size + 1, 1, none⟩ = some (.int .u8 _) := hk.cell 1
    have fx := hk.frozen 1
    have K' := Lib.hid ((stA_u8 (upd (fun _ => 0) 0 (tw line 2)) 1 (by decide) (by decide) (by decide) (tw line 7)) ▸ hk.set_ 1 (.int .u8 (tw line 7)))
    have Z' := Lib.hid ((Z.out.below b Z.out.lt).far (p := ⟨w.heap.size + 1, 1, none⟩) (show w.heap.size ≠ w.heap.size + 1 by omega) (.int .u8 (tw line 7)))
    have B' := Lib.hid ((B.out.trans (b.mono B.out.size)).setCell (p := ⟨w.heap.size + 1, 1, none⟩) (by show w.heap.size ≤ w.heap.size + 1; omega) (.int .u8 (tw line 7)))
    clear b hk K Z B
    have K := K'
    have Z := Z'
    have B := B'
    clear K' Z' B'
    go_wp2_with fail
    clear cx fx
    refine (rstwo_any line HS.out 12 (by decide) _).mono ?_
    rintro e w5 ⟨rfl, b⟩
    have hk := K.out.below b K.out.lt
    have cx : w5.cell? ⟨w.heap.size + 1, 2, none⟩ = some (.int .u8 _) := hk.cell 2
    have fx := hk.frozen 2
    have K' := Lib.hid ((stA_u8 (upd (upd (fun _ => 0) 0 (tw line 2)) 1 (tw line 7)) 2 (by decide) (by decide) (by decide) (tw line 12)) ▸ hk.set_ 2 (.int .u8 (tw line 12)))
    have Z' := Lib.hid ((Z.out.below b Z.out.lt).far (p := ⟨w.heap.size + 1, 2, none⟩) (show w.heap.size ≠ w.heap.size + 1 by omega) (.int .u8 (tw line 12)))
    have B' := Lib.hid ((B.out.trans (b.mono B.out.size)).setCell (p := ⟨w.heap.size + 1, 2, none⟩) (by show w.heap.size ≤ w.heap.size + 1; omega) (.int .u8 (tw line 12)))
    clear b hk K Z B
    have K := K'
    have Z := Z'
    have B := B'
    clear K' Z' B'
    go_wp2_with fail
    clear cx fx
    refine (rstwo_any line HS.out 17 (by decide) _).mono ?_
    rintro e w6 ⟨rfl, b⟩
    have hk := K.out.below b K.out.lt
    have cx : w6.cell? ⟨w.heap.size + 1, 3, none⟩ = some (.int .u8 _) := hk.cell 3
    have fx := hk.frozen 3
    have K' := Lib.hid ((stA_u8 (upd (upd (upd (fun _ => 0) 0 (tw line 2)) 1 (tw line 7)) 2 (tw line 12)) 3 (by decide) (by decide) (by decide) (tw line 17)) ▸ hk.set_ 3 (.int .u8 (tw line 17)))
    have Z' := Lib.hid ((Z.out.below b Z.out.lt).far (p := ⟨w.heap.size + 1, 3, none⟩) (show w.heap.size ≠ w.heap.size + 1 by omega) (.int .u8 (tw line 17)))
    have B' := Lib.hid ((B.out.trans (b.mono B.out.size)).setCell (p := ⟨w.heap.size + 1, 3, none⟩) (by show w.heap.size ≤ w.heap.size + 1; omega) (.int .u8 (tw line 17)))
    clear b hk K Z B
    have K := K'
    have Z := Z'
    have B := B'
    clear K' Z' B'
    go_wp2_with fail
    clear cx fx
    generalize World.setCell w6 _ _ = w7 at *
    refine (rfread_any w7 (line.extract 22 30)).mono ?_
    rw [HX4.out]
    rintro e w' ⟨rfl, rfl⟩
    have b := Below.refl w7.heap.size w7
    have hk := K.out.below b K.out.lt
    have cx : w7.cell? ⟨w.heap.size + 1, 4, none⟩ = some (.int .u8 _) := hk.cell 4
    have fx := hk.frozen 4
    have K' := Lib.hid ((stA_u8 (upd (upd (upd (upd (fun _ => 0) 0 (tw line 2)) 1 (tw line 7)) 2 (tw line 12)) 3 (tw line 17)) 4 (by decide) (by decide) (by decide) x4) ▸ hk.set_ 4 (.int .u8 x4))
    have Z' := Lib.hid ((Z.out.below b Z.out.lt).far (p := ⟨w.heap.size + 1, 4, none⟩) (show w.heap.size ≠ w.heap.size + 1 by omega) (.int .u8 x4))
    have B' := Lib.hid ((B.out.trans (b.mono B.out.size)).setCell (p := ⟨w.heap.size + 1, 4, none⟩) (by show w.heap.size ≤ w.heap.size + 1; omega) (.int .u8 x4))
    clear b hk K Z B
    have K := K'
    have Z := Z'
    have B := B'
    clear K' Z' B'
    go_wp2_with fail
    clear cx fx
    refine (rstwo_any line HS.out 34 (by decide) _).mono ?_
    rw [HX34.out]
    rintro e w8 ⟨rfl, b8⟩
    have K' := Lib.hid (K.out.below b8 K.out.lt)
    have Z' := Lib.hid (Z.out.below b8 Z.out.lt)
    have B' := Lib.hid (B.out.trans (b8.mono B.out.size))
    clear b8 K Z B
    have K := K'
    have Z := Z'
    have B := B'
    clear K' Z' B'
    go_wp2_with fail
    refine (rstwo_any line HS.out 36 (by decide) _).mono ?_
    rw [HX36.out]
    rintro e w9 ⟨rfl, b⟩
    have hk := K.out.below b K.out.lt
    have cx : w9.cell? ⟨w.heap.size + 1, 5, none⟩ = some (.int .u16 _) := hk.cell 5
    have fx := hk.frozen 5
    have K' := Lib.hid ((stA_pc (upd (upd (upd (upd (upd (fun _ => 0) 0 (tw line 2)) 1 (tw line 7)) 2 (tw line 12)) 3 (tw line 17)) 4 (x4)) (x34 * 256 + x36)) ▸ hk.set_ 5 (.int .u16 (x34 * 256 + x36)))
    have Z' := Lib.hid ((Z.out.below b Z.out.lt).far (p := ⟨w.heap.size + 1, 5, none⟩) (show w.heap.size ≠ w.heap.size + 1 by omega) (.int .u16 (x34 * 256 + x36)))
    have B' := Lib.hid ((B.out.trans (b.mono B.out.size)).setCell (p := ⟨w.heap.size + 1, 5, none⟩) (by show w.heap.size ≤ w.heap.size + 1; omega) (.int .u16 (x34 * 256 + x36)))
    clear b hk K Z B
    have K := K'
    have Z := Z'
    have B := B'
    clear K' Z' B'
    go_wp2_with fail
    clear cx fx
    generalize World.setCell w9 _ _ = w10 at *
    obtain ⟨R5, hR5⟩ : ∃ R, (upd (upd (upd (upd (upd (upd (fun _ => 0) 0 (tw line 2)) 1 (tw line 7)) 2 (tw line 12)) 3 (tw line 17)) 4 (x4)) 5 (x34 * 256 + x36)) = R := ⟨_, rfl⟩
    rw [hR5] at K
    have HR5 := Lib.hid hR5
    clear hR5 g1 g2 g3 g4 b34 b36
    go_loopw [5] (fun i wr => ∃ q : Nat, q ≤ 8 ∧ i = .int .i64 q ∧ Blk wr (w.heap.size + 1) 25 (stA (pgs line R5 q)) ∧ Blk wr w.heap.size 25 (stA fun _ => 0) ∧ Below w.heap.size w wr) (fun i _ => 8 - (intOf i).toNat)
    case atStart => exact ⟨0, by omega, rfl, by rw [show pgs line R5 0 = R5 from funext fun j => if_neg (by omega)]; exact K.out, Z.out, B.out⟩
    case round =>
      clear K Z B
      obtain ⟨q, hq, rfl, hk, hz0, hB⟩ := hrel
      by_cases hlt : q < 8
      · have q0 : (0 : Int) ≤ q := by omega
        have q1 : (q : Int) < 8 := by omega
        obtain ⟨m, hm⟩ : ∃ m, 41 + 3 * q = m := ⟨_, rfl⟩
        have e1 : IntKind.i64.wrap (3 * (q : Int)) = 3 * q := IntWalk.i64_in _ (by omega)
        have e2 : IntKind.i64.wrap (41 + 3 * (q : Int)) = m := (IntWalk.i64_in _ (by omega)).trans (by omega)
        have hk2 := pgs_set line R5 q hlt
        rw [hm] at hk2
        have Hk := Lib.hid hk
        have Hz := Lib.hid hz0
        have HB := Lib.hid hB
        have HM := Lib.hid hm
        have HK2 := Lib.hid hk2
        clear hk hz0 hB hm hk2
        go_wp2_with fail
        refine (rstwo_any line HS.out m (by have := HM.out; omega) _).mono ?_
        rintro e w11 ⟨rfl, b⟩
        have hk := Hk.out.below b Hk.out.lt
        have cx : w11.cell? ⟨w.heap.size + 1, 6 + q, none⟩ = some (.int .u8 (pgs line R5 q (6 + q))) := (hk.cell (6 + q)).trans (stA_at _ _ (by omega) (by omega) (by omega))
        have fx := hk.frozen (6 + q)
        have K := Lib.hid (HK2.out ▸ hk.set_ (6 + q) (.int .u8 (tw line m)))
        have Z := Lib.hid ((Hz.out.below b Hz.out.lt).far (p := ⟨w.heap.size + 1, 6 + q, none⟩) (show w.heap.size ≠ w.heap.size + 1 by omega) (.int .u8 (tw line m)))
        have B := Lib.hid ((HB.out.trans (b.mono HB.out.size)).setCell (p := ⟨w.heap.size + 1, 6 + q, none⟩) (by show w.heap.size ≤ w.heap.size + 1; omega) (.int .u8 (tw line m)))
        clear b hk Hk Hz HB
        go_wp2_with fail
        go_roundw
        case rel => exact ⟨q + 1, by omega, by go_num, K.out, Z.out, B.out⟩
        case measure => simp [intOf]; omega
      · obtain rfl : q = 8 := by omega
        have K := Lib.hid hk
        have Z := Lib.hid hz0
        have B := Lib.hid hB
        clear hk hz0 hB
        go_wp2_with fail
        refine (rstwo_any line HS.out 67 (by decide) _).mono ?_
        rintro e w12 ⟨rfl, b⟩
        have hk := K.out.below b K.out.lt
        have cx : w12.cell? ⟨w.heap.size + 1, 14, none⟩ = some (.int .u8 (pgs line R5 8 14)) := hk.cell 14
        have fx := hk.frozen 14
        have K' := hk.set_ 14 (.int .u8 (tw line 67))
        rw [stA_u8 _ 14 (by decide) (by decide) (by decide)] at K'
        have Z' := (Z.out.below b Z.out.lt).far (p := ⟨w.heap.size + 1, 14, none⟩) (show w.heap.size ≠ w.heap.size + 1 by omega) (.int .u8 (tw line 67))
        have B' := (B.out.trans (b.mono B.out.size)).setCell (p := ⟨w.heap.size + 1, 14, none⟩) (by show w.heap.size ≤ w.heap.size + 1; omega) (.int .u8 (tw line 67))
        have K2 := Lib.hid K'
        have Z2 := Lib.hid Z'
        have B2 := Lib.hid B'
        clear b hk K Z B K' Z' B'
        go_upto_region 15 with fail
        clear cx fx
        generalize World.setCell w12 _ _ = w13 at *
        obtain ⟨s70, h70⟩ : ∃ s, line.extract 70 74 = s := ⟨_, rfl⟩
        obtain ⟨bb, hbb⟩ : ∃ b, (s70.toList == [102, 97, 115, 116]) = b := ⟨_, rfl⟩
        have hf : bb = decide (s70 = fastS) := by
          rw [← hbb]
          by_cases h : s70 = fastS
          · rw [h]; decide +kernel
          · rw [decide_eq_false h]
            have := ba_ne h
            rwa [show fastS.toList = [102, 97, 115, 116] by decide +kernel] at this
        have hsl : ∀ W : World, (Instr.slice 9 (.string line) (some (.int .i64 70)) none none).run Tryd.prog W = .ok (.string s70) W := fun W => by
          have hs70 := HS.out
          have hz70 : (70 : Int) ≤ (line.size : Int) := by omega
          rw [← h70]
          go_simp
        have cb : w13.cell? ⟨w.heap.size + 1, 15, none⟩ = some (.bool (decide (upd (pgs line R5 8) 14 (tw line 67) 15 = 1))) := K2.out.cell 15
        have fb := K2.out.frozen 15
        have K' := K2.out.set_ 15 (.bool bb)
        rw [stA_f] at K'
        have hfin : stA (upd (upd (pgs line R5 8) 14 (tw line 67)) 15 (if bb then 1 else 0)) = stA (rrV line) := stA_congr fun j hj => by
          have e := HR5.out
          match j, hj with
          | 0, _ | 1, _ | 2, _ | 3, _ => rw [← e]; rfl
          | 4, _ => rw [← e]; show x4 = (rdI (line.extract 22 30)).1; rw [HX4.out]
          | 5, _ => rw [← e]; show x34 * 256 + x36 = tw line 34 * 256 + tw line 36; rw [HX34.out, HX36.out]
          | 6, _ | 7, _ | 8, _ | 9, _ | 10, _ | 11, _ | 12, _ | 13, _ | 14, _ => rfl
          | 15, _ =>
            show (if bb then (1 : Int) else 0) = if line.extract 70 74 = fastS then 1 else 0
            rw [hf, h70]
            by_cases h : s70 = fastS
            · rw [if_pos h, decide_eq_true h]; rfl
            · rw [if_neg h, decide_eq_false h]; rfl
          | k + 16, h => exact absurd h (by omega)
        rw [hfin] at K'
        have K3 := Lib.hid K'
        have Z3 := Lib.hid (Z2.out.far (p := ⟨w.heap.size + 1, 15, none⟩) (show w.heap.size ≠ w.heap.size + 1 by omega) (.bool bb))
        have B3 := Lib.hid (B2.out.setCell (p := ⟨w.heap.size + 1, 15, none⟩) (by show w.heap.size ≤ w.heap.size + 1; omega) (.bool bb))
        clear K' hfin hf h70 Z2 B2 K2
        have hok := rrV_ok line
        have hTx := fun W => rstext_any (rrV line) hok W
        rw [rtB_eq _ hok] at hTx
        obtain ⟨hE, hX⟩ := HEX.out
        have HRE : Hid ((txB (rrV line) 16 = line → E = 0 ∧ X = stA (rrV line)) ∧ (¬ txB (rrV line) 16 = line → E = 3 ∧ X = #[.int .u8 0, .int .u8 0, .int .u8 0, .int .u8 0, .int .u8 0, .int .u16 0, .int .u8 0, .int .u8 0, .int .u8 0, .int .u8 0, .int .u8 0, .int .u8 0, .int .u8 0, .int .u8 0, .int .u8 0, .bool false])) := Lib.hid (by
          constructor
          · intro h; exact ⟨by rw [← hE]; unfold rsE; rw [if_pos ⟨HS.out, h⟩], by rw [← hX]; unfold rsR; rw [if_pos ⟨HS.out, h⟩]⟩
          · intro h; exact ⟨by rw [← hE]; unfold rsE; rw [if_neg (fun a => h a.2)], by rw [← hX]; unfold rsR; rw [if_neg (fun a => h a.2)]; rfl⟩)
        obtain ⟨T, hT⟩ : ∃ T, txB (rrV line) 16 = T := ⟨_, rfl⟩
        obtain ⟨V, hV⟩ : ∃ V, rrV line = V := ⟨_, rfl⟩
        rw [hT] at hTx HRE
        rw [hV] at hTx HRE K3
        have HTx := Lib.hid hTx
        have hs2 : (Tryd.prog.info? 25).map (·.size) = some (stA V).size := by rw [stA_size]; exact size_state
        have HS2 := Lib.hid hs2
        have hsv := stA_size V
        clear hok hTx hE hX hT hV hs2
        go_upto_region 16 with fail
        clear cb fb
        generalize World.setCell w13 _ _ = w14 at *
        have k14 := K3.out
        go_wp2_with (refine wpList_load_row rfl 25 (.tmp 4) rfl (w.heap.size + 1) (by rfl) 25 (stA V) (0, 0) _ k14 Tryd.underlying25 rfl HS2.out ?_)
        refine (HTx.out w14).mono ?_
        rintro e w5 ⟨rfl, b5⟩
        have B5 := B3.out.trans (b5.mono B3.out.size)
        have k5 := K3.out.below b5 K3.out.lt
        have z5 := Z3.out.below b5 Z3.out.lt
        have HB5 := Lib.hid B5
        clear b5 B5 k14
        by_cases he : T = line
        · have hb : (line.toList == line.toList) = true := ba_eq line
          obtain ⟨hE0, hX0⟩ := HRE.out.1 he
          have HX0 := Lib.hid hX0
          subst he
          subst hE0
          have hst := z5.run_store (P := Tryd.prog) (stA V) (by rw [stA_size, stA_size]) (stA_one _)
          have hld := (z5.row (stA V)).run_load (P := Tryd.prog) Tryd.underlying25 rfl size_state
          have HD := Lib.hid hld
          have B6 := Lib.hid (below_setRow HB5.out (show w.heap.size ≤ w.heap.size by omega) (stA V))
          clear hld hX0 z5
          go_wp2_with (refine wpList_load_row rfl 25 (.tmp 4) rfl (w.heap.size + 1) (by rfl) 25 (stA V) (0, 0) _ k5 Tryd.underlying25 rfl HS2.out ?_)
          (try simp only [Exit.inBlock, Exit.then])
          refine bodyPost_ret (results_cell_tmp (a := ⟨w.heap.size, 0, none⟩) Tryd.results15 (by rfl) HD.out rfl) rfl ?_
          exact ⟨by rw [HX0.out]; rfl, B6.out⟩
        · have hb : (T.toList == line.toList) = false := ba_ne he
          obtain ⟨hE0, hX0⟩ := HRE.out.2 he
          have HX0 := Lib.hid hX0
          subst hE0
          have c0 : w5.cell? ⟨w.heap.size, 0, none⟩ = some (.int .u8 0) := z5.cell 0
          have f0 : w5.frozen? ⟨w.heap.size, 0, none⟩ = false := z5.frozen 0
          have c1 : w5.cell? ⟨w.heap.size, 1, none⟩ = some (.int .u8 0) := z5.cell 1
          have f1 : w5.frozen? ⟨w.heap.size, 1, none⟩ = false := z5.frozen 1
          have c2 : w5.cell? ⟨w.heap.size, 2, none⟩ = some (.int .u8 0) := z5.cell 2
          have f2 : w5.frozen? ⟨w.heap.size, 2, none⟩ = false := z5.frozen 2
          have c3 : w5.cell? ⟨w.heap.size, 3, none⟩ = some (.int .u8 0) := z5.cell 3
          have f3 : w5.frozen? ⟨w.heap.size, 3, none⟩ = false := z5.frozen 3
          have c4 : w5.cell? ⟨w.heap.size, 4, none⟩ = some (.int .u8 0) := z5.cell 4
          have f4 : w5.frozen? ⟨w.heap.size, 4, none⟩ = false := z5.frozen 4
          have c5 : w5.cell? ⟨w.heap.size, 5, none⟩ = some (.int .u16 0) := z5.cell 5
          have f5 : w5.frozen? ⟨w.heap.size, 5, none⟩ = false := z5.frozen 5
          have c6 : w5.cell? ⟨w.heap.size, 6, none⟩ = some (.int .u8 0) := z5.cell 6
          have f6 : w5.frozen? ⟨w.heap.size, 6, none⟩ = false := z5.frozen 6
          have c7 : w5.cell? ⟨w.heap.size, 7, none⟩ = some (.int .u8 0) := z5.cell 7
          have f7 : w5.frozen? ⟨w.heap.size, 7, none⟩ = false := z5.frozen 7
          have c8 : w5.cell? ⟨w.heap.size, 8, none⟩ = some (.int .u8 0) := z5.cell 8
          have f8 : w5.frozen? ⟨w.heap.size, 8, none⟩ = false := z5.frozen 8
          have c9 : w5.cell? ⟨w.heap.size, 9, none⟩ = some (.int .u8 0) := z5.cell 9
          have f9 : w5.frozen? ⟨w.heap.size, 9, none⟩ = false := z5.frozen 9
          have c10 : w5.cell? ⟨w.heap.size, 10, none⟩ = some (.int .u8 0) := z5.cell 10
          have f10 : w5.frozen? ⟨w.heap.size, 10, none⟩ = false := z5.frozen 10
          have c11 : w5.cell? ⟨w.heap.size, 11, none⟩ = some (.int .u8 0) := z5.cell 11
          have f11 : w5.frozen? ⟨w.heap.size, 11, none⟩ = false := z5.frozen 11
          have c12 : w5.cell? ⟨w.heap.size, 12, none⟩ = some (.int .u8 0) := z5.cell 12
          have f12 : w5.frozen? ⟨w.heap.size, 12, none⟩ = false := z5.frozen 12
          have c13 : w5.cell? ⟨w.heap.size, 13, none⟩ = some (.int .u8 0) := z5.cell 13
          have f13 : w5.frozen? ⟨w.heap.size, 13, none⟩ = false := z5.frozen 13
          have c14 : w5.cell? ⟨w.heap.size, 14, none⟩ = some (.int .u8 0) := z5.cell 14
          have f14 : w5.frozen? ⟨w.heap.size, 14, none⟩ = false := z5.frozen 14
          have c15 : w5.cell? ⟨w.heap.size, 15, none⟩ = some (.bool false) := z5.cell 15
          have f15 : w5.frozen? ⟨w.heap.size, 15, none⟩ = false := z5.frozen 15
          have hld := (Blk.zw z5).run_load (P := Tryd.prog) Tryd.underlying25 rfl size_state
          have HD := Lib.hid hld
          have B6 := Lib.hid (below_zw HB5.out (show w.heap.size ≤ w.heap.size by omega))
          clear hld hX0 z5 k5 he
          go_wp2_with fail
          (try simp only [Exit.inBlock, Exit.then])
          refine bodyPost_ret (results_cell_tmp (a := ⟨w.heap.size, 0, none⟩) Tryd.results15 (by rfl) HD.out rfl) rfl ?_
          exact ⟨by rw [HX0.out]; rfl, B6.out⟩
  · have e1 : rsE line = 3 := by unfold rsE; rw [if_neg (fun a => hs a.1)]
    have e2 : stA (rsR line) = #[.int .u8 0, .int .u8 0, .int .u8 0, .int .u8 0, .int .u8 0, .int .u16 0, .int .u8 0, .int .u8 0, .int .u8 0, .int .u8 0, .int .u8 0, .int .u8 0, .int .u8 0, .int .u8 0, .int .u8 0, .bool false] := by unfold rsR; rw [if_neg (fun a => hs a.1)]; rfl
    rw [e1, e2]
    have hb : ((line.size : Int) != 74) = true := by simp; omega
    have hld := (Blk.new w 25 #[.int .u8 0, .int .u8 0, .int .u8 0, .int .u8 0, .int .u8 0, .int .u16 0, .int .u8 0, .int .u8 0, .int .u8 0, .int .u8 0, .int .u8 0, .int .u8 0, .int .u8 0, .int .u8 0, .int .u8 0, .bool false]).run_load (P := Tryd.prog) Tryd.underlying25 rfl size_state
    have HD := Lib.hid hld
    have B1 := Lib.hid ((Below.refl _ w).alloc (Nat.le_refl _) (.cells #[.int .u8 0, .int .u8 0, .int .u8 0, .int .u8 0, .int .u8 0, .int .u16 0, .int .u8 0, .int .u8 0, .int .u8 0, .int .u8 0, .int .u8 0, .int .u8 0, .int .u8 0, .int .u8 0, .int .u8 0, .bool false] 25))
    clear e1 e2 hld hs
    go_enter Tryd.func15, Tryd.ntmps15
    go_wp2_with fail
    (try simp only [Exit.inBlock, Exit.then])
    refine bodyPost_ret (results_cell_tmp (a := ⟨w.heap.size, 0, none⟩) Tryd.results15 (by rfl) HD.out rfl) rfl ?_
    exact ⟨rfl, B1.out⟩
end Go.Proofs.YtnnfnjbfjgjgnaaDoor
namespace Go.Proofs.YtnnfnjbfjgjgnaaDoor
open Go.RowKit
set_option linter.unusedVariables false
set_option linter.unusedSimpArgs false
set_option maxRecDepth 100000
theorem st_pages (r : Nat → Int) (W : World) : (Op.equalIn 9999 23 (.agg #[.int .u8 (r 6), .int .u8 (r 7), .int .u8 (r 8), .int .u8 (r 9), .int .u8 (r 10), .int .u8 (r 11), .int .u8 (r 12), .int .u8 (r 13)]) (.agg #[.int .u8 (r 6), .int .u8 (r 7), .int .u8 (r 8), .int .u8 (r 9), .int .u8 (r 10), .int .u8 (r 11), .int .u8 (r 12), .int .u8 (r 13)])).run Tryd.prog W = .ok true W := by
  have h := run_eql_ints (n := 8) Tryd.underlying23 Tryd.underlying5 (by kernel_rfl) (by kernel_rfl) 9997 (fun j => r (6 + j)) (fun j => r (6 + j)) W
  have e : ((List.range 8).all fun i => r (6 + i) == r (6 + i)) = true := by simp
  rw [e] at h
  exact h
theorem st_eql_same (r : Nat → Int) (W : World) : (binOp .eql 25 (.agg (stA r)) (.agg (stA r))).run Tryd.prog W = .ok (.bool true) W := by
  have hp := st_pages r
  rw [run_eql_struct, run_equalIn_struct]
  · unfold stA
    go_simp
    done
  · kernel_rfl
  · kernel_rfl
def tOff : Nat → Nat
  | 0 => 0
  | k + 1 => tOff k + (ahN k + wrN k)
theorem txB_off (r : Nat → Int) (k : Nat) : (txB r k).size = tOff k := by
  induction k with
  | zero => rfl
  | succ k ih => simp only [txB, tOff, ByteArray.size_append, wrS_size, ih]; rfl
theorem ext_at (r : Nat → Int) (k : Nat) (hk : k < 16) (a b : Nat) (ha : tOff k + ahN k = a) (hb : a + wrN k = b) : (txB r 16).extract a b = wrS k (r k) := by
  have h := txB_sfx r k (16 - k) (by omega)
  rw [show 16 - k = (15 - k) + 1 by omega] at h
  simp only [sfx] at h
  rw [show 15 - (15 - k) = k by omega] at h
  have h2 : bl (txB r 16) = (bl (txB r k) ++ bl (ahS k)) ++ (bl (wrS k (r k)) ++ sfx r (15 - k)) := by rw [← h, List.append_assoc]
  exact ext_mid h2 (by rw [List.length_append, bl_len, bl_len, txB_off]; exact ha) (by rw [wrS_size]; exact hb)
theorem rr_at0 (r : Nat → Int) : (txB r 16).extract 2 4 = wrS 0 (r 0) := ext_at r 0 (by decide) 2 4 rfl rfl
theorem rr_at1 (r : Nat → Int) : (txB r 16).extract 7 9 = wrS 1 (r 1) := ext_at r 1 (by decide) 7 9 rfl rfl
theorem rr_at2 (r : Nat → Int) : (txB r 16).extract 12 14 = wrS 2 (r 2) := ext_at r 2 (by decide) 12 14 rfl rfl
theorem rr_at3 (r : Nat → Int) : (txB r 16).extract 17 19 = wrS 3 (r 3) := ext_at r 3 (by decide) 17 19 rfl rfl
theorem rr_at4 (r : Nat → Int) : (txB r 16).extract 22 30 = wrS 4 (r 4) := ext_at r 4 (by decide) 22 30 rfl rfl
theorem rr_at5 (r : Nat → Int) : (txB r 16).extract 34 38 = wrS 5 (r 5) := ext_at r 5 (by decide) 34 38 rfl rfl
theorem rr_at6 (r : Nat → Int) : (txB r 16).extract 41 43 = wrS 6 (r 6) := ext_at r 6 (by decide) 41 43 rfl rfl
theorem rr_at7 (r : Nat → Int) : (txB r 16).extract 44 46 = wrS 7 (r 7) := ext_at r 7 (by decide) 44 46 rfl rfl
theorem rr_at8 (r : Nat → Int) : (txB r 16).extract 47 49 = wrS 8 (r 8) := ext_at r 8 (by decide) 47 49 rfl rfl
theorem rr_at9 (r : Nat → Int) : (txB r 16).extract 50 52 = wrS 9 (r 9) := ext_at r 9 (by decide) 50 52 rfl rfl
theorem rr_at10 (r : Nat → Int) : (txB r 16).extract 53 55 = wrS 10 (r 10) := ext_at r 10 (by decide) 53 55 rfl rfl
theorem rr_at11 (r : Nat → Int) : (txB r 16).extract 56 58 = wrS 11 (r 11) := ext_at r 11 (by decide) 56 58 rfl rfl
theorem rr_at12 (r : Nat → Int) : (txB r 16).extract 59 61 = wrS 12 (r 12) := ext_at r 12 (by decide) 59 61 rfl rfl
theorem rr_at13 (r : Nat → Int) : (txB r 16).extract 62 64 = wrS 13 (r 13) := ext_at r 13 (by decide) 62 64 rfl rfl
theorem rr_at14 (r : Nat → Int) : (txB r 16).extract 67 69 = wrS 14 (r 14) := ext_at r 14 (by decide) 67 69 rfl rfl
theorem rr_at15 (r : Nat → Int) : (txB r 16).extract 70 74 = wrS 15 (r 15) := ext_at r 15 (by decide) 70 74 rfl rfl
theorem tw_at (r : Nat → Int) (hr : StOk r) (k a : Nat) (hk : k < 16) (h4 : k ≠ 4) (h5 : k ≠ 5) (h15 : k ≠ 15) (h : (txB r 16).extract a (a + 2) = wrS k (r k)) : tw (txB r 16) a = r k := by
  have hb := st_le hr k hk h5
  unfold tw
  rw [h]
  unfold wrS
  rw [if_neg h4, if_neg h5, if_neg h15, fh_hexk _ 2 hb.1 (by decide) (by decide)]
  simp only
  omega
theorem hexL_four (v : Int) (v0 : 0 ≤ v) (v1 : v ≤ 65535) : hexL v 4 = hexL (v / 256) 2 ++ hexL (v % 256) 2 := by
  simp only [hexL, List.nil_append, List.append_assoc]
  rw [show v / 16 / 16 / 16 % 16 = v / 256 / 16 % 16 by omega, show v / 16 / 16 % 16 = v / 256 % 16 by omega, show v % 256 / 16 % 16 = v / 16 % 16 by omega, show v % 256 % 16 = v % 16 by omega]
theorem rr_pc (r : Nat → Int) (hr : StOk r) : tw (txB r 16) 34 = r 5 / 256 ∧ tw (txB r 16) 36 = r 5 % 256 := by
  have hp := st_pc hr
  have h := txB_sfx r 5 11 rfl
  simp only [sfx] at h
  have e : bl (wrS 5 (r 5)) = bl (strOfNums (hexL (r 5 / 256) 2)) ++ bl (strOfNums (hexL (r 5 % 256) 2)) := by
    rw [show wrS 5 (r 5) = strOfNums (hexL (r 5) 4) from rfl, hexL_four _ hp.1 hp.2]
    simp [bl, strOf_list]
  rw [show 15 - 10 = 5 from rfl, e] at h
  obtain ⟨B, hB⟩ : ∃ B, bl (strOfNums (hexL (r 5 % 256) 2)) ++ (bl (ahS (15 - 9)) ++ (bl (wrS (15 - 9) (r (15 - 9))) ++ sfx r 9)) = B := ⟨_, rfl⟩
  have h1 : bl (txB r 16) = (bl (txB r 5) ++ bl (ahS 5)) ++ (bl (strOfNums (hexL (r 5 / 256) 2)) ++ (bl (strOfNums (hexL (r 5 % 256) 2)) ++ sfx r 10)) := by rw [← h]; simp [sfx, List.append_assoc]
  have h2 : bl (txB r 16) = (bl (txB r 5) ++ bl (ahS 5) ++ bl (strOfNums (hexL (r 5 / 256) 2))) ++ (bl (strOfNums (hexL (r 5 % 256) 2)) ++ sfx r 10) := by rw [h1]; simp [List.append_assoc]
  have s2 : ∀ v, (strOfNums (hexL v 2)).size = 2 := hx2_size
  have l5 : (bl (txB r 5)).length = 30 := by rw [bl_len, txB_off]; rfl
  have la : (bl (ahS 5)).length = 4 := rfl
  have a1 := ext_mid (i := 34) (j := 36) h1 (by rw [List.length_append, l5, la]) (by rw [s2])
  have a2 := ext_mid (i := 36) (j := 38) h2 (by rw [List.length_append, List.length_append, l5, la, bl_len, s2]) (by rw [s2])
  unfold tw
  rw [show 34 + 2 = 36 from rfl, show 36 + 2 = 38 from rfl, a1, a2, fh_hexk _ 2 (by omega) (by decide) (by decide), fh_hexk _ 2 (by omega) (by decide) (by decide)]
  constructor <;> (simp only; omega)
theorem rrV_of (r : Nat → Int) (hr : StOk r) (i : Nat) (hi : i < 16) : rrV (txB r 16) i = r i := by
  match i, hi with
  | 0, _ => exact tw_at r hr 0 2 (by decide) (by decide) (by decide) (by decide) (rr_at0 r)
  | 1, _ => exact tw_at r hr 1 7 (by decide) (by decide) (by decide) (by decide) (rr_at1 r)
  | 2, _ => exact tw_at r hr 2 12 (by decide) (by decide) (by decide) (by decide) (rr_at2 r)
  | 3, _ => exact tw_at r hr 3 17 (by decide) (by decide) (by decide) (by decide) (rr_at3 r)
  | 6, _ => exact tw_at r hr 6 41 (by decide) (by decide) (by decide) (by decide) (rr_at6 r)
  | 7, _ => exact tw_at r hr 7 44 (by decide) (by decide) (by decide) (by decide) (rr_at7 r)
  | 8, _ => exact tw_at r hr 8 47 (by decide) (by decide) (by decide) (by decide) (rr_at8 r)
  | 9, _ => exact tw_at r hr 9 50 (by decide) (by decide) (by decide) (by decide) (rr_at9 r)
  | 10, _ => exact tw_at r hr 10 53 (by decide) (by decide) (by decide) (by decide) (rr_at10 r)
  | 11, _ => exact tw_at r hr 11 56 (by decide) (by decide) (by decide) (by decide) (rr_at11 r)
  | 12, _ => exact tw_at r hr 12 59 (by decide) (by decide) (by decide) (by decide) (rr_at12 r)
  | 13, _ => exact tw_at r hr 13 62 (by decide) (by decide) (by decide) (by decide) (rr_at13 r)
  | 14, _ => exact tw_at r hr 14 67 (by decide) (by decide) (by decide) (by decide) (rr_at14 r)
  | 4, _ =>
    show (rdI ((txB r 16).extract 22 30)).1 = r 4
    have hb := st_le hr 4 (by decide) (by decide)
    rw [rr_at4, show wrS 4 (r 4) = strOfNums (tx (flF (r 4)) 8) from rfl, rdI_of _ hb.1 hb.2]
  | 5, _ =>
    show tw (txB r 16) 34 * 256 + tw (txB r 16) 36 = r 5
    obtain ⟨e1, e2⟩ := rr_pc r hr
    have := st_pc hr
    rw [e1, e2]
    omega
  | 15, _ =>
    show (if (txB r 16).extract 70 74 = fastS then (1 : Int) else 0) = r 15
    have hb : 0 ≤ r 15 ∧ r 15 ≤ 1 := hr 15 (by decide)
    rw [rr_at15, show wrS 15 (r 15) = (if r 15 = 0 then slowS else fastS) from rfl]
    by_cases h0 : r 15 = 0
    · rw [if_pos h0, h0, if_neg (by intro h; exact absurd (congrArg ByteArray.data h) (by decide))]
    · rw [if_neg h0, if_pos rfl]; omega
  | k + 16, h => exact absurd h (by omega)
theorem rs_yes (r : Nat → Int) (hr : StOk r) : stA (rsR (txB r 16)) = stA r ∧ rsE (txB r 16) = 0 := by
  have h : (txB r 16).size = 74 ∧ txB (rrV (txB r 16)) 16 = txB r 16 := ⟨by rw [txB_off]; rfl, txB_congr 16 fun i hi => rrV_of r hr i hi⟩
  unfold rsR rsE
  rw [if_pos h, if_pos h]
  exact ⟨stA_congr fun i hi => rrV_of r hr i hi, rfl⟩
theorem rs_no (line : ByteArray) (h : ∀ r, StOk r → txB r 16 ≠ line) : rsR line = (fun _ => 0) ∧ rsE line = 3 := by
  unfold rsR rsE
  rw [if_neg (fun a => h _ (rrV_ok line) a.2), if_neg (fun a => h _ (rrV_ok line) a.2)]
  exact ⟨rfl, rfl⟩
theorem rd_rs (line : ByteArray) : stA (rdR line) = stA (rsR line) ∧ rdE line = rsE line := by
  by_cases h : ∃ r, StOk r ∧ txB r 16 = line
  · obtain ⟨r, hr, rfl⟩ := h
    obtain ⟨a, b⟩ := rd_yes r hr
    obtain ⟨c, d⟩ := rs_yes r hr
    exact ⟨a.trans c.symm, b.trans d.symm⟩
  · have h2 : ∀ r, StOk r → txB r 16 ≠ line := fun r hr e => h ⟨r, hr, e⟩
    obtain ⟨a, b⟩ := rd_no line h2
    obtain ⟨c, d⟩ := rs_no line h2
    rw [a, c, b, d]
    exact ⟨rfl, rfl⟩
end Go.Proofs.YtnnfnjbfjgjgnaaDoor
