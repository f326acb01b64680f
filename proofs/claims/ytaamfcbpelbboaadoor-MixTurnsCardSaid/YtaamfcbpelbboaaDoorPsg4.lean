/-
  Layer 15: voice, Voices.
-/
import Derived.Test.YtaamfcbpelbboaaDoorPsg3
import Derived.Test.YtaamfcbpelbboaaDoorMix4
namespace Go.Proofs.YtaamfcbpelbboaaDoor
open Go.RowKit
set_option linter.unusedVariables false
set_option linter.unusedSimpArgs false
set_option maxRecDepth 100000
/-- How high and loud a channel is. -/
def Cw.vc (x : Cw) : Vc := ⟨x.lvl, x.ct % 32, x.bl / 16, x.bl % 16⟩
def Vc.zero : Vc := ⟨0, 0, 0, 0⟩
theorem Cw.lvl_bd {x : Cw} (h : x.ok) (ht : x.tdk) : 0 ≤ x.lvl ∧ x.lvl ≤ 255 := by
  unfold Cw.lvl
  repeat' split
  · decide
  · exact ht
  · unfold lvN; split <;> decide
  · exact h.2.2.2.2.2.2.2 _
theorem Cw.vc_ok {x : Cw} (h : x.ok) (ht : x.tdk) : x.vc.ok := by
  obtain ⟨_, _, _, _, _, ⟨a0, a1⟩, ⟨b0, b1⟩, _⟩ := id h
  refine ⟨Cw.lvl_bd h ht, ?_, ?_, ?_⟩ <;> unfold Cw.vc <;> dsimp only <;> omega
theorem voice_any {w : World} {n : Nat} {x : Cw} (h : CW w n x) : Calls Tryd.prog 48 #[.pointer (some ⟨n, 0, none⟩)] w fun e w' => e = .returned (.agg (vcC x.vc)) ∧ Below w.heap.size w w' := by
  have H := Lib.hid h
  have hl := h.lt
  obtain ⟨_, _, _, _, _, ⟨a0, a1⟩, ⟨b0, b1⟩, _⟩ := h.2
  clear h
  go_enter Tryd.func48, Tryd.ntmps48
  go_wp2_with fail
  have hb : Blk (w.alloc (.cells #[.int .u8 0, .int .u8 0, .int .u8 0, .int .u8 0] 32)) w.heap.size 32 #[.int .u8 0, .int .u8 0, .int .u8 0, .int .u8 0] := Blk.new w _ _
  have hB : Below w.heap.size w (w.alloc (.cells #[.int .u8 0, .int .u8 0, .int .u8 0, .int .u8 0] 32)) := (Below.refl _ _).alloc (Nat.le_refl _) _
  have hc := H.out.keep hB hl
  have HB := Lib.hid hB
  generalize World.alloc _ _ = wa at *
  generalize hg : w.heap.size = g at *
  have HG := Lib.hid hg
  have HH := Lib.hid (And.intro hb hc)
  clear hg hb hc hB
  refine (cbal_any HH.out.2).mono ?_
  rintro e w1 ⟨rfl, b1⟩
  have Z1 := Lib.hid (And.intro (HH.out.1.below b1 HH.out.1.lt) (And.intro (HH.out.2.keep b1 HH.out.2.lt) (Below.trans HB.out (b1.mono (HG.out ▸ HB.out.size)))))
  clear b1 HH HB
  go_wp2_with fail
  refine (clevel_any Z1.out.2.1).mono ?_
  rintro e w2 ⟨rfl, b2⟩
  have Z2 := Lib.hid (And.intro (Z1.out.1.below b2 Z1.out.1.lt) (And.intro (Z1.out.2.1.keep b2 Z1.out.2.1.lt) (Below.trans Z1.out.2.2 (b2.mono (HG.out ▸ Z1.out.2.2.size)))))
  clear b2 Z1
  go_wp2_with fail
  refine (cvol_any Z2.out.2.1).mono ?_
  rintro e w3 ⟨rfl, rfl⟩
  have k0 : w2.cell? ⟨g, 0, none⟩ = some (.int .u8 0) := Z2.out.1.cell 0
  have k1 : w2.cell? ⟨g, 1, none⟩ = some (.int .u8 0) := Z2.out.1.cell 1
  have k2 : w2.cell? ⟨g, 2, none⟩ = some (.int .u8 0) := Z2.out.1.cell 2
  have k3 : w2.cell? ⟨g, 3, none⟩ = some (.int .u8 0) := Z2.out.1.cell 3
  have f0 := Z2.out.1.frozen 0
  have f1 := Z2.out.1.frozen 1
  have f2 := Z2.out.1.frozen 2
  have f3 := Z2.out.1.frozen 3
  go_wp2_with fail
  have NB := (((Z2.out.1.set_ 0 (.int .u8 x.lvl)).set_ 1 (.int .u8 (x.ct % 32))).set_ 2 (.int .u8 (x.bl / 16))).set_ 3 (.int .u8 (x.bl % 16))
  simp only [List.setIfInBounds_toArray, List.set_cons_zero, List.set_cons_succ] at NB
  have hld := NB.run_load (P := Tryd.prog) Tryd.underlying32 rfl (by kernel_rfl)
  refine bodyPost_ret (v := .agg (vcC x.vc)) (results_cell (a := ⟨g, 0, none⟩) Tryd.results48 (by rfl) hld) rfl ?_
  refine ⟨rfl, ?_⟩
  have hB := Z2.out.2.2
  rw [HG.out]
  exact (((hB.setCell (p := ⟨g, 0, none⟩) (Nat.le_refl _) _).setCell (p := ⟨g, 1, none⟩) (Nat.le_refl _) _).setCell (p := ⟨g, 2, none⟩) (Nat.le_refl _) _).setCell (p := ⟨g, 3, none⟩) (Nat.le_refl _) _
/-- The cells of n voices. -/
def vsL (v : Nat → Vc) (n : Nat) : List Value := cellsOf_ 4 (fun i j => .int .u8 ((v i).fld j)) n
def vsC (v : Nat → Vc) (n : Nat) : Array Value := (vsL v n).toArray
theorem vsC_size (v : Nat → Vc) (n : Nat) : (vsC v n).size = n * 4 := by simp [vsC, vsL, cellsOf_len]
theorem vsC_at (v : Nat → Vc) (n i j : Nat) (hi : i < n) (hj : j < 4) : (vsC v n)[i * 4 + j]? = some (.int .u8 ((v i).fld j)) := by
  have hlt : i * 4 + j < n * 4 := by omega
  have e1 : (i * 4 + j) / 4 = i := by omega
  have e2 : (i * 4 + j) % 4 = j := by omega
  have := cellsOf_at 4 (fun i j => Value.int .u8 ((v i).fld j)) n (i * 4 + j) hlt
  rw [e1, e2] at this
  simpa [vsC, vsL] using this
theorem vsC_congr {v u : Nat → Vc} {n : Nat} (h : ∀ i, i < n → v i = u i) : vsC v n = vsC u n := by
  apply Array.ext_getElem?
  intro q
  by_cases hq : q < n * 4
  · have h4 : q = q / 4 * 4 + q % 4 := by omega
    rw [h4, vsC_at v n _ _ (by omega) (by omega), vsC_at u n _ _ (by omega) (by omega), h _ (by omega)]
  · rw [Array.getElem?_eq_none (by rw [vsC_size]; omega), Array.getElem?_eq_none (by rw [vsC_size]; omega)]
theorem vsC_one (v : Nat → Vc) (n : Nat) : ∀ x ∈ (vsC v n).toList, x.oneCell' = true := by
  intro x hx
  exact cellsOf_one (m := 4) (fun i j _ _ => rfl) x (by simpa [vsC, vsL] using hx)
theorem vsC_put (v : Nat → Vc) (n k : Nat) (hk : k < n) (x : Vc) : ((((vsC v n).setIfInBounds (k * 4) (.int .u8 x.lv)).setIfInBounds (k * 4 + 1) (.int .u8 x.vo)).setIfInBounds (k * 4 + 2) (.int .u8 x.lf)).setIfInBounds (k * 4 + 3) (.int .u8 x.rt) = vsC (fun i => if i = k then x else v i) n := by
  apply Array.ext_getElem?
  intro q
  have hsz := vsC_size v n
  by_cases hq : q < n * 4
  · have h4 : q = q / 4 * 4 + q % 4 := by omega
    have hu := vsC_at (fun i => if i = k then x else v i) n (q / 4) (q % 4) (by omega) (by omega)
    have hv := vsC_at v n (q / 4) (q % 4) (by omega) (by omega)
    rw [← h4] at hu hv
    rw [hu]
    simp only [Array.getElem?_setIfInBounds, Array.size_setIfInBounds, hsz]
    by_cases e : q / 4 = k
    · have : q % 4 = 0 ∨ q % 4 = 1 ∨ q % 4 = 2 ∨ q % 4 = 3 := by omega
      rcases this with h | h | h | h
      · rw [if_neg (by omega), if_neg (by omega), if_neg (by omega), if_pos (by omega), if_pos (by omega)]; simp [e, h, Vc.fld]
      · rw [if_neg (by omega), if_neg (by omega), if_pos (by omega), if_pos (by omega)]; simp [e, h, Vc.fld]
      · rw [if_neg (by omega), if_pos (by omega), if_pos (by omega)]; simp [e, h, Vc.fld]
      · rw [if_pos (by omega), if_pos (by omega)]; simp [e, h, Vc.fld]
    · rw [if_neg (by omega), if_neg (by omega), if_neg (by omega), if_neg (by omega), hv]
      simp only [if_neg e]
  · rw [Array.getElem?_eq_none (by simp only [Array.size_setIfInBounds]; omega), Array.getElem?_eq_none (by rw [vsC_size]; omega)]
end Go.Proofs.YtaamfcbpelbboaaDoor
