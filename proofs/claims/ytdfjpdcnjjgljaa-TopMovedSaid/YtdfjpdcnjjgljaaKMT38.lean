/-
  Texts of these proofs, one behind the other: Mvt1.
-/
import Derived.Test.YtdfjpdcnjjgljaaKMT18
import Derived.Test.YtdfjpdcnjjgljaaKMT37
namespace Go.Proofs.Ytdfjpdcnjjgljaa
open Go.RowKit
set_option linter.unusedVariables false
set_option linter.unusedSimpArgs false
set_option maxRecDepth 100000
theorem make_full (w : World) : ∃ cur, cur.size = 8192 ∧ (Instr.makeSlice 31 (.int .i64 8192) (.int .i64 8192)).run Try.prog w = .ok (.slice (some ⟨w.heap.size, 0, none⟩) 8192 8192) (w.alloc (.cells cur 5)) := by
  obtain ⟨i, hi, hzz⟩ := Option.map_eq_some_iff.1 u8_info'
  simp only [Prod.mk.injEq] at hzz
  obtain ⟨hz, hs, hb⟩ := hzz
  have h := run_makeSlice (P := Try.prog) w 31 5 i _ Try.underlying31 hi hz .i64 .i64 8192 8192 (by omega) (by omega) (by rw [hs]; simp) (by rw [hb]; omega) (by omega)
  refine ⟨_, ?_, h⟩
  simp [madeCells, hs]
/-- What stands in memory behind a byte that was moved. -/
theorem fw_mv (k : Nat) (f t : Int) (z : Nat → Int) (i : Nat) (t0 : 0 ≤ t) (t1 : t ≤ 65535) : fw (mvM k f t 8192 z (List.range i)) (mvT k t (i : Int)) (mvM k f t 8192 z (List.range i) ((mvF k f (i : Int)) % 8192).toNat) = mvM k f t 8192 z (List.range (i + 1)) := by
  obtain ⟨p0, p1⟩ := mvF_bd k f (i : Int)
  obtain ⟨q0, q1⟩ := mvT_bd k t (i : Int) t0 t1
  rw [List.range_succ, mvM_snoc]
  funext j
  unfold fw
  rw [show ((mvF k f (i : Int)) % 8192).toNat = (mvF k f (i : Int)).toNat % 8192 by omega, show ((mvT k t (i : Int)) % 8192).toNat = (mvT k t (i : Int)).toNat % 8192 by omega]
theorem fw_wf {f : Nat → Int} (h : ∀ i, i < 8192 → 0 ≤ f i ∧ f i ≤ 255) : True := trivial
theorem RD.mlt {w : World} {g : Nat} {mb : Option Nat} {f : Nat → Int} (h : RD w g mb f) : ∀ b, mb = some b → b < w.heap.size := fun b e => by
  subst e
  obtain ⟨D, hD, _⟩ := h.2
  exact hD.lt
theorem wyRowP {w : World} {B : Nat} {v : Value} {k : Nat} {f t : Int} {l : List Nat} (own : w.ownsRow B 37 2 v l.length (wyV k f t l)) (hl : l ≠ []) : ∃ g cap, v = .slice (some ⟨g, 0, none⟩) l.length cap ∧ B ≤ g ∧ g < w.heap.size ∧ ∀ (i x : Nat), l[i]? = some x → w.cell? ⟨g, 2 * i, none⟩ = some (.int .u16 (mvF k f (x : Int))) ∧ w.cell? ⟨g, 2 * i + 1, none⟩ = some (.int .u16 (mvT k t (x : Int))) := by
  rcases own.2 with ⟨h, h0⟩ | ⟨g, cap, cur, h, hg, hb, _, _, hs, ht⟩
  · exact absurd (List.length_eq_zero_iff.1 h0) hl
  · refine ⟨g, cap, h, hg, (Array.getElem?_eq_some_iff.1 hb).1, fun i x hx => ?_⟩
    have hi := (List.getElem?_eq_some_iff.1 hx).1
    have key : ∀ (l : List Nat) (i x : Nat), l[i]? = some x → (wyV k f t l)[2 * i]? = some (.int .u16 (mvF k f (x : Int))) ∧ (wyV k f t l)[2 * i + 1]? = some (.int .u16 (mvT k t (x : Int))) := by
      intro l
      induction l with
      | nil => intro i x hx; simp at hx
      | cons y l ih =>
        intro i x hx
        have e : wyV k f t (y :: l) = .int .u16 (mvF k f (y : Int)) :: .int .u16 (mvT k t (y : Int)) :: wyV k f t l := by simp [wyV]
        rw [e]
        rcases i with _ | i
        · obtain rfl : y = x := by simpa using hx
          exact ⟨rfl, rfl⟩
        · have := ih i x (by simpa using hx)
          rw [show 2 * (i + 1) = 2 * i + 1 + 1 by omega]
          simpa using this
    obtain ⟨e1, e2⟩ := key l i x hx
    rw [← ht, List.getElem?_take, if_pos (by omega), Array.getElem?_toList] at e1 e2
    exact ⟨by simp [World.cell?, hb, e1], by simp [World.cell?, hb, e2]⟩
theorem mv_nin {w4 : World} {g gv : Nat} {mb mb' : Option Nat} (hM : mb' = mb ∨ ∃ b', mb' = some b' ∧ w4.heap.size ≤ b') (h : gv ∉ g :: mb.toList) (hl : gv < w4.heap.size) : gv ∉ g :: mb'.toList := by
  rcases hM with rfl | ⟨b', rfl, hb⟩
  · exact h
  · intro x
    rcases List.mem_cons.1 x with x | x
    · exact h (by simp [x])
    · have : gv = b' := by simpa using x
      omega
theorem mv_step {w4 w5 w6 : World} {g : Nat} {mb mb' mb2 : Option Nat} (k5 : Kp (g :: mb.toList) w4 w5) (hM : mb' = mb ∨ ∃ b', mb' = some b' ∧ w4.heap.size ≤ b') (k6 : Kp (g :: mb'.toList) w5 w6) (hf : mb2 = mb' ∨ ∃ b', mb2 = some b' ∧ w5.heap.size ≤ b') :
    Kp (g :: mb.toList) w4 w6 ∧ (mb2 = mb ∨ ∃ b', mb2 = some b' ∧ w4.heap.size ≤ b') := by
  refine ⟨k5.trans k6 fun x hx => ?_, ?_⟩
  · rcases List.mem_cons.1 hx with rfl | hx
    · left; simp
    · rcases hM with rfl | ⟨b', rfl, hb⟩
      · left; simp only [List.mem_cons]; right; exact hx
      · right
        have : x = b' := by simpa using hx
        omega
  · rcases hf with rfl | ⟨b', rfl, hb⟩
    · exact hM
    · exact .inr ⟨b', rfl, Nat.le_trans k5.size hb⟩
end Go.Proofs.Ytdfjpdcnjjgljaa
