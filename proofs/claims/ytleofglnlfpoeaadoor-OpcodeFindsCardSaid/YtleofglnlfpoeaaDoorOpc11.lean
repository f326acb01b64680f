/-
  Opcode: plain facts for the laws: found again; how many are known; the modes of a name.
-/
import Derived.Test.YtleofglnlfpoeaaDoorOpc10
namespace Go.Proofs.YtleofglnlfpoeaaDoor
set_option linter.unusedVariables false
set_option maxRecDepth 100000
theorem findF_kn (s : List UInt8) (m : Int) : (findF s m (knL 256)).map (fun x => x.val) = knN.find? fun i => fitB s m i := by
  unfold findF knN
  rw [← knL_map 256 (by omega), List.find?_map]
  rfl
theorem back_kn : ∀ b : Fin 256, (opK b.val = true → knN.find? (fun i => fitB (opN b.val) (opM b.val : Int) i) = some b.val) ∧ (opK b.val = false → knN.find? (fun i => fitB (opN b.val) (opM b.val : Int) i) = some 234 ∧ opZ b.val = 1) := by decide +kernel
theorem back_fin (b : Nat) (hb : b < 256) : (opK b = true → findF (opN b) (opM b : Int) (knL 256) = some ⟨b, hb⟩) ∧ (opK b = false → findF (opN b) (opM b : Int) (knL 256) = some ⟨234, by decide⟩ ∧ opZ b = 1) := by
  have h := back_kn ⟨b, hb⟩
  have e := findF_kn (opN b) (opM b : Int)
  dsimp only at h
  refine ⟨fun hk => ?_, fun hk => ⟨?_, (h.2 hk).2⟩⟩
  · rw [h.1 hk] at e
    obtain ⟨x, hx, hv⟩ := Option.map_eq_some_iff.1 e
    rw [hx]; exact congrArg some (Fin.ext hv)
  · rw [(h.2 hk).1] at e
    obtain ⟨x, hx, hv⟩ := Option.map_eq_some_iff.1 e
    rw [hx]; exact congrArg some (Fin.ext hv)
/-- How many are known below k. -/
def cntK (k : Nat) : Nat := ((List.range k).filter fun i => opK i).length
theorem cnt_yes (k : Nat) (h : opK k = true) : cntK (k + 1) = cntK k + 1 := by unfold cntK; rw [List.range_succ, List.filter_append]; simp [h]
theorem cnt_no (k : Nat) (h : opK k = false) : cntK (k + 1) = cntK k := by unfold cntK; rw [List.range_succ, List.filter_append]; simp [h]
theorem cnt_all : cntK 256 = 234 := by decide +kernel
theorem cnt_le (k : Nat) : cntK k ≤ k := by unfold cntK; exact Nat.le_trans (List.length_filter_le _ _) (by simp)
theorem rop_field0 (S : ByteArray) (m k y : Int) (q : Bool) (W : World) : (Instr.field 27 (.agg #[.string S, .int .u8 m, .int .i64 k, .int .i64 y, .bool q]) 0).run Tryd.prog W = .ok (.string S) W := by kernel_rfl
theorem rop_field (S : ByteArray) (m k y : Int) (q : Bool) (W : World) : (Instr.field 27 (.agg #[.string S, .int .u8 m, .int .i64 k, .int .i64 y, .bool q]) 2).run Tryd.prog W = .ok (.int .i64 k) W := by kernel_rfl
open Go.RowKit in
/-- The row of places, cell by cell. -/
theorem posRow {w : World} {B m cap : Nat} {pv : Option Addr} {z : Nat → Int} (own : w.ownsRow B 3 1 (.slice pv m cap) m (posV z m)) : ∀ k, k < m → ∃ ad : Addr, pv = some ad ∧ ad.block < w.heap.size ∧ w.cell? (ad.add k) = some (.int .i64 (posN z k : Int)) := fun k hk => by
  rcases own.2 with ⟨h, h0⟩ | ⟨g, cap2, cur, h, _, hb, _, _, hs, ht⟩
  · omega
  · cases h
    refine ⟨_, rfl, (Array.getElem?_eq_some_iff.1 hb).1, ?_⟩
    have e1 : (cur.toList.take (m * 1))[k]? = (posV z m)[k]? := by rw [ht]
    have e2 : (posV z m)[k]? = some (.int .i64 (posN z k : Int)) := by unfold posV; rw [List.getElem?_map, List.getElem?_range hk]; rfl
    rw [e2, List.getElem?_take, if_pos (by omega), Array.getElem?_toList] at e1
    rw [show (⟨g, 0, none⟩ : Addr).add k = ⟨g, k, none⟩ by unfold Addr.add; split <;> simp_all]
    simp [World.cell?, hb, e1]
end Go.Proofs.YtleofglnlfpoeaaDoor
