/-
  TopSides, the plain part: a channel that tells a level, and no other one, is heard.
-/
import Derived.Test.YtaamfcbpelbboaaDoorMix8
import Derived.Test.YtaamfcbpelbboaaDoorA1
namespace Go.Proofs.YtaamfcbpelbboaaDoor
open Go.RowKit
set_option linter.unusedVariables false
set_option linter.unusedSimpArgs false
set_option maxRecDepth 100000
theorem or192 : ∀ v : Fin 32, bits .or .u8 192 (v.val : Int) = 192 + (v.val : Int) := by decide +kernel
theorem or192_eq {v : Int} (h0 : 0 ≤ v) (h1 : v < 32) : bits .or .u8 192 v = 192 + v := by
  have := or192 ⟨v.toNat, by omega⟩
  rwa [show ((⟨v.toNat, by omega⟩ : Fin 32).val : Int) = v by simp; omega] at this
/-- A channel that tells a level. -/
def tsX (lv v l r : Int) : Cw := ((Cw.new.wr 4 (192 + v)).wr 5 (l * 16 + r)).wr 6 lv
def tsS (n lv v l r m : Int) : Sg := ((((Sg.new.wr 0 n).wr 1 (m * 17)).wr 4 (192 + v)).wr 5 (l * 16 + r)).wr 6 lv
theorem ts_x {lv v l r : Int} (v0 : 0 ≤ v) (v1 : v < 32) (l0 : 0 ≤ l) (l1 : l < 16) (r0 : 0 ≤ r) (r1 : r < 16) : (tsX lv v l r).on = true ∧ (tsX lv v l r).vc = ⟨lv % 32, v, l, r⟩ := by
  have b6 : bitB (192 + v) 6 = true := by rw [bit6_eq (by omega) (by omega)]; exact decide_eq_true (by omega)
  have b7 : bitB (192 + v) 7 = true := by rw [bit7_eq (by omega) (by omega)]; exact decide_eq_true (by omega)
  have e : tsX lv v l r = { Cw.new with ct := 192 + v, bl := l * 16 + r, td := lv % 32 } := by
    unfold tsX Cw.wr Cw.take Cw.tell
    simp [b6, b7, Cw.new]
  rw [e]
  have h1 : ({ Cw.new with ct := 192 + v, bl := l * 16 + r, td := lv % 32 } : Cw).on = true := b7
  refine ⟨h1, ?_⟩
  unfold Cw.vc
  have h2 : ({ Cw.new with ct := 192 + v, bl := l * 16 + r, td := lv % 32 } : Cw).lvl = lv % 32 := by
    have h3 : ({ Cw.new with ct := 192 + v, bl := l * 16 + r, td := lv % 32 } : Cw).tell = true := b6
    unfold Cw.lvl
    rw [h1, h3]
    rfl
  rw [h2]
  show (⟨lv % 32, (192 + v) % 32, (l * 16 + r) / 16, (l * 16 + r) % 16⟩ : Vc) = _
  congr 1 <;> omega
theorem ts_s {n : Nat} (hn : n < 6) (lv v l r m : Int) : tsS n lv v l r m = ⟨fun i => if i = n then tsX lv v l r else Cw.new, n, m * 17, 0⟩ := by
  have e0 : Sg.new.wr 0 (n : Int) = ⟨fun _ => Cw.new, n, 0, 0⟩ := by
    unfold Sg.wr Sg.new
    rw [if_pos (by decide)]
    congr 1
    omega
  unfold tsS
  rw [e0]
  unfold Sg.wr
  simp only [show (1 : Nat) % 16 = 1 from rfl, show (4 : Nat) % 16 = 4 from rfl, show (5 : Nat) % 16 = 5 from rfl, show (6 : Nat) % 16 = 6 from rfl]
  simp [hn]
  funext i
  by_cases h : i = n
  · simp [h, tsX]
  · simp [h]
theorem ts_vc {n : Nat} (hn : n < 6) {lv v l r m : Int} (v0 : 0 ≤ v) (v1 : v < 32) (l0 : 0 ≤ l) (l1 : l < 16) (r0 : 0 ≤ r) (r1 : r < 16) (i : Nat) : (tsS n lv v l r m).vc i = if i = n then ⟨lv % 32, v, l, r⟩ else Vc.zero := by
  obtain ⟨h1, h2⟩ := ts_x (lv := lv) v0 v1 l0 l1 r0 r1
  rw [ts_s hn]
  unfold Sg.vc Sg.depth
  by_cases h : i = n
  · subst h
    simp only [if_true]
    rw [if_pos ⟨h1, .inr rfl⟩, h2]
  · simp only [if_neg h]
    rw [if_neg (by intro x; exact absurd x.1 (by decide))]
theorem sum_one {n : Nat} (hn : n < 6) (x : Int) : sumTo (fun i => if i = n then x else 0) 6 = x := by
  have : n = 0 ∨ n = 1 ∨ n = 2 ∨ n = 3 ∨ n = 4 ∨ n = 5 := by omega
  rcases this with rfl | rfl | rfl | rfl | rfl | rfl <;> simp [sumTo]
theorem hrd_zero (F : Vc → Int) : hrd F Vc.zero = 0 := by unfold hrd; rw [if_pos (by decide)]
/-- What is heard on the left side, and on the right one. -/
def tsA (lv v l r m : Int) : Int := hrd (fun x => x.left m) ⟨lv % 32, v, l, r⟩
def tsB (lv v l r m : Int) : Int := hrd (fun x => x.right m) ⟨lv % 32, v, l, r⟩
theorem ts_of {n : Nat} (hn : n < 6) {lv v l r m : Int} (v0 : 0 ≤ v) (v1 : v < 32) (l0 : 0 ≤ l) (l1 : l < 16) (r0 : 0 ≤ r) (r1 : r < 16) (m0 : 0 ≤ m) (m1 : m < 16) :
    ofL (tsS n lv v l r m).vc ((tsS n lv v l r m).lo / 16) = tsA lv v l r m ∧ ofR (tsS n lv v l r m).vc ((tsS n lv v l r m).lo % 16) = tsB lv v l r m := by
  have e1 : (tsS n lv v l r m).lo / 16 = m := by rw [ts_s hn]; show m * 17 / 16 = m; omega
  have e2 : (tsS n lv v l r m).lo % 16 = m := by rw [ts_s hn]; show m * 17 % 16 = m; omega
  rw [e1, e2]
  unfold ofL ofR tsA tsB
  constructor
  · rw [sum_congr (g := fun i => if i = n then hrd (fun x => x.left m) ⟨lv % 32, v, l, r⟩ else 0) fun i hi => by
      rw [ts_vc hn v0 v1 l0 l1 r0 r1]
      by_cases h : i = n
      · rw [if_pos h, if_pos h]
      · rw [if_neg h, if_neg h, hrd_zero], sum_one hn]
  · rw [sum_congr (g := fun i => if i = n then hrd (fun x => x.right m) ⟨lv % 32, v, l, r⟩ else 0) fun i hi => by
      rw [ts_vc hn v0 v1 l0 l1 r0 r1]
      by_cases h : i = n
      · rw [if_pos h, if_pos h]
      · rw [if_neg h, if_neg h, hrd_zero], sum_one hn]
theorem un_swap (a b c d : Int) : (⟨a, b, c, d⟩ : Vc).un = (⟨a, b, d, c⟩ : Vc).un := by unfold Vc.un; dsimp only; rw [Bool.and_comm (c == 0) (d == 0)]
theorem ts_swap (lv v l r m : Int) : tsA lv v l r m = tsB lv v r l m := by
  unfold tsA tsB hrd
  rw [un_swap]
  rfl
theorem ts_same (lv v l m : Int) : tsA lv v l l m = tsB lv v l l m := ts_swap lv v l l m
/-- Six channels, and the four numbers that are kept. -/
def QI (W : World) (h : Nat) (f : Nat → Int) (g : Nat) (ns : Nat → Nat) (s : Sg) (w : World) : Prop := PI W g ns s w ∧ Blk w h 55 (iArr .i64 4 f)
theorem QI.wrote {W w w' : World} {h g : Nat} {f : Nat → Int} {ns : Nat → Nat} {s t : Sg} (q : QI W h f g ns s w) (p : PG w' g ns t) (k : Kp (pgL g ns) w w') : QI W h f g ns t w' :=
  ⟨q.1.wrote p k, q.2.kp k (fun hx => by
    rcases pgL_all g ns h hx with e | ⟨i, hi, e⟩
    · exact Blk.ne_ q.2 q.1.1.1 (by decide) e
    · exact Blk.ne_ q.2 (q.1.1.2.1 i hi).1 (by decide) e)⟩
theorem QI.below {W w w' : World} {h g : Nat} {f : Nat → Int} {ns : Nat → Nat} {s : Sg} (q : QI W h f g ns s w) (b : Below w.heap.size w w') : QI W h f g ns s w' := ⟨q.1.below b, q.2.below b q.2.lt⟩
def ocF (a b c d : Int) (k : Nat) (j : Nat) : Int := if j < 2 * k then (match j with | 0 => a | 1 => b | 2 => c | _ => d) else 0
theorem oc_put {a b c d X Y : Int} {k : Nat} (hk : k < 2) (hX : k = 0 → X = a ∧ Y = b) (hY : k = 1 → X = c ∧ Y = d) :
    ((iArr .i64 4 (ocF a b c d k)).setIfInBounds (k * 2) (.int .i64 X)).setIfInBounds (k * 2 + 1) (.int .i64 Y) = iArr .i64 4 (ocF a b c d (k + 1)) := by
  rw [iArr_set, iArr_set]
  apply iArr_congr
  intro j hj
  have hk2 : k = 0 ∨ k = 1 := by omega
  have hj4 : j = 0 ∨ j = 1 ∨ j = 2 ∨ j = 3 := by omega
  rcases hk2 with rfl | rfl
  · obtain ⟨rfl, rfl⟩ := hX rfl
    rcases hj4 with rfl | rfl | rfl | rfl <;> simp [ocF]
  · obtain ⟨rfl, rfl⟩ := hY rfl
    rcases hj4 with rfl | rfl | rfl | rfl <;> simp [ocF]
/-- Two cells that may be written. -/
def Two (h j : Nat) (w : World) : Prop := ((∃ u, w.cell? ⟨h, j * 2, none⟩ = some u) ∧ w.frozen? ⟨h, j * 2, none⟩ = false) ∧ (∃ u, w.cell? ⟨h, j * 2 + 1, none⟩ = some u) ∧ w.frozen? ⟨h, j * 2 + 1, none⟩ = false
theorem oc_some {w : World} {h j : Nat} {t : TypeId} {C : Array Value} (b : Blk w h t C) (hC : C.size = 4) (hj : j < 2) : Two h j w :=
  ⟨⟨⟨_, by rw [b.cell, Array.getElem?_eq_getElem (by omega)]⟩, b.frozen _⟩, ⟨_, by rw [b.cell, Array.getElem?_eq_getElem (by omega)]⟩, b.frozen _⟩
end Go.Proofs.YtaamfcbpelbboaaDoor
