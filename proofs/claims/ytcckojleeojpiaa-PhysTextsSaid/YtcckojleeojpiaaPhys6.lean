/-
  What Span of phys answers, for every kind; it only makes memory.
-/
import Derived.Test.YtcckojleeojpiaaPhys2
import Derived.Test.YtcckojleeojpiaaG4
import Derived.Test.YtcckojleeojpiaaG9
namespace Go.Proofs.Ytcckojleeojpiaa
open Go.RowKit
set_option linter.unusedVariables false
/-- The rows of a kind among the first parts. -/
def spanTo (x : Int) : Nat → List (Int × Int)
  | 0 => []
  | k + 1 => spanTo x k ++ if kindN k = x then [(fromN k, fromN (k + 1) - fromN k)] else []
def rowC (l : List (Int × Int)) : List Value := l.flatMap fun p => [.int .u32 p.1, .int .u32 p.2]
theorem parts_cell (k : Nat) (h : k < 11) : partsC[k * 2]? = some (.int .u32 (fromN k)) ∧ partsC[k * 2 + 1]? = some (.int .u8 (kindN k)) := by
  rcases below11 k h with rfl | rfl | rfl | rfl | rfl | rfl | rfl | rfl | rfl | rfl | rfl <;> exact ⟨rfl, rfl⟩
theorem rowE_info : (Try.prog.info? 38).map (fun i => (i.zero, i.size, i.bytes)) = some (some (.agg #[.int .u32 0, .int .u32 0]), 2, 8) := by kernel_rfl
theorem fromN_bd (k : Nat) (h : k < 11) : 0 ≤ fromN k ∧ fromN k ≤ 2095104 ∧ fromN k < fromN (k + 1) ∧ fromN (k + 1) ≤ 2097152 := by
  rcases below11 k h with rfl | rfl | rfl | rfl | rfl | rfl | rfl | rfl | rfl | rfl | rfl <;> decide
theorem spanTo_yes (x : Int) (k : Nat) (e : kindN k = x) : spanTo x (k + 1) = spanTo x k ++ [(fromN k, fromN (k + 1) - fromN k)] := by simp [spanTo, e]
theorem spanTo_no (x : Int) (k : Nat) (e : ¬ kindN k = x) : spanTo x (k + 1) = spanTo x k := by simp [spanTo, e]
theorem spanTo_len (x : Int) (k : Nat) : (spanTo x k).length ≤ k := by
  induction k with
  | zero => simp [spanTo]
  | succ k ih => simp only [spanTo]; rw [List.length_append]; split <;> simp <;> omega
theorem _root_.Go.World.ownsRow.ne {w : World} {base e size n : Nat} {v : Value} {xs : List Value} (h : w.ownsRow base e size v n xs) (g : Nat) (t : TypeId) (cs : Array Value) (hb : Blk w g t cs) (hne : e ≠ t) : v.ownBlock ≠ some g := by
  rcases h.2 with ⟨rfl, _⟩ | ⟨g', cap, cur, rfl, _, hh, _⟩
  · simp [Value.ownBlock]
  · intro he
    have : g' = g := by simpa [Value.ownBlock] using he
    subst this
    exact Blk.ne_ (t := e) hh hb hne rfl
set_option maxRecDepth 100000 in
set_option maxHeartbeats 2000000 in
theorem span_any (x : Int) (w : World) (x0 : 0 ≤ x) (x1 : x ≤ 255) :
    Calls Try.prog 28 #[.int .u8 x] w fun e w' => ∃ v, e = .returned v ∧ w'.ownsRow w.heap.size 38 2 v (spanTo x 11).length (rowC (spanTo x 11)) ∧ Below w.heap.size w w' := by
  have hst := fun W => run_storeCells_new (P := Try.prog) W 68 #[.int .u32 0, .int .u8 0, .int .u32 0, .int .u8 0, .int .u32 0, .int .u8 0, .int .u32 0, .int .u8 0, .int .u32 0, .int .u8 0, .int .u32 0, .int .u8 0, .int .u32 0, .int .u8 0, .int .u32 0, .int .u8 0, .int .u32 0, .int .u8 0, .int .u32 0, .int .u8 0, .int .u32 0, .int .u8 0] partsC (by kernel_rfl) rfl (by kernel_rfl)
  have hsz : (Try.prog.info? 68).map (·.size) = some partsC.size := by kernel_rfl
  have HSZ := Lib.hid hsz
  clear hsz
  go_enter Try.func28, Try.ntmps28
  go_wp2_with (first | (go_at_call 44; refine (parts_any _).mono ?_; rintro e w1 ⟨rfl, hb⟩) | (refine wpList_load_row rfl 68 (.tmp 4) rfl w1.heap.size (by rfl) 68 partsC (0, 0) _ (heap_alloc_new w1 _) Try.underlying68 rfl HSZ.out ?_))
  have hB0 := Blk.new w1 68 partsC
  have hb0 : Below w.heap.size w (w1.alloc (.cells partsC 68)) := hb.alloc hb.size _
  have zb := hb.size
  generalize w1.heap.size = B at *
  generalize w1.alloc (.cells partsC 68) = w2 at *
  clear hst HSZ hb
  go_loopw [3, 10] (fun v i wr => ∃ k : Nat, k ≤ 11 ∧ i = .int .i64 k ∧ wr.ownsRow w.heap.size 38 2 v (spanTo x k).length (rowC (spanTo x k)) ∧ Blk wr B 68 partsC ∧ Below w.heap.size w wr) (fun _ i _ => 11 - (intOf i).toNat)
  case atStart => exact ⟨0, by omega, rfl, ⟨rfl, Or.inl ⟨rfl, rfl⟩⟩, hB0, hb0⟩
  case round =>
    obtain ⟨k, hk, rfl, own, hP, hB⟩ := hrel
    have zB := hB.size
    have lB := hP.lt
    by_cases hlt : k < 11
    · have hx := parts_at k hlt
      have fb := fromN_bd k hlt
      by_cases e : kindN k = x
      · have he : (kindN k == x) = true := by simpa using e
        have HS := Lib.hid (spanTo_yes x k e)
        clear e
        by_cases hl : k + 1 < 11
        · have hc : wr.cell? ⟨B, (k + 1) * 2, none⟩ = some (.int .u32 (fromN (k + 1))) := (hP.cell _).trans (parts_cell (k + 1) hl).1
          obtain ⟨v', w', hrun, own', gb⟩ := more_new (P := Try.prog) (ty := 36) (c := 1) (m := 1) (g := wr.heap.size + 1) Try.underlying36 rowE_info rfl (by decide) (own.alloc (.cells #[.int .u32 (fromN k), .int .u8 (kindN k)] 67)) #[.int .u32 (fromN k), .int .u32 (fromN (k + 1) - fromN k)] rfl (by simp [Value.oneCell']) (by simp) (by have := spanTo_len x k; omega) (by have := spanTo_len x k; omega) (by simp; omega)
          have hP' : Blk w' B 68 partsC := ((hP.alloc _).alloc _).grown gb (fun h => by have := own.ne B 68 partsC hP (by decide); exact this h.symm)
          have hB' : Below w.heap.size w w' := ((hB.alloc zB _).alloc (by simp; omega) _).grown gb (by simp; omega) (fun j h => (own.lt j h).1)
          go_wp2_with (at_builtin; refine wpList_append_run rfl (.tmp 26) (.tmp 34) 36 rfl rfl rfl hrun ?_)
          go_roundw
          case rel => exact ⟨k + 1, by omega, by go_num, by rw [HS.out]; simpa [rowC] using own', hP', hB'⟩
          case measure => simp [intOf]; omega
        · obtain rfl : k = 10 := by omega
          have hx2 : ∀ w : World, (Instr.index 68 (.agg partsC) (.int .i64 10)).run Try.prog w = .ok (.agg #[.int .u32 (fromN 10), .int .u8 (kindN 10)]) w := fun w => parts_at 10 (by omega) w
          clear hx
          obtain ⟨v', w', hrun, own', gb⟩ := more_new (P := Try.prog) (ty := 36) (c := 1) (m := 1) (g := wr.heap.size + 1) Try.underlying36 rowE_info rfl (by decide) (own.alloc (.cells #[.int .u32 (fromN 10), .int .u8 (kindN 10)] 67)) #[.int .u32 (fromN 10), .int .u32 (2097152 - fromN 10)] rfl (by simp [Value.oneCell']) (by simp) (by have := spanTo_len x 10; omega) (by have := spanTo_len x 10; omega) (by simp; omega)
          have hB' : Below w.heap.size w w' := ((hB.alloc zB _).alloc (by simp; omega) _).grown gb (by simp; omega) (fun j h => (own.lt j h).1)
          have hP' : Blk w' B 68 partsC := ((hP.alloc _).alloc _).grown gb (fun h => by have := own.ne B 68 partsC hP (by decide); exact this h.symm)
          go_wp2_with (at_builtin; refine wpList_append_run rfl (.tmp 26) (.tmp 34) 36 rfl rfl rfl hrun ?_)
          go_roundw
          case rel => exact ⟨11, by omega, by go_num, by rw [HS.out]; simpa [rowC, show fromN 11 = 2097152 from rfl] using own', hP', hB'⟩
          case measure => simp [intOf]
      · have he : (kindN k == x) = false := by simpa using e
        have HS := Lib.hid (spanTo_no x k e)
        clear e
        by_cases hl : k + 1 < 11
        · have hc : wr.cell? ⟨B, (k + 1) * 2, none⟩ = some (.int .u32 (fromN (k + 1))) := (hP.cell _).trans (parts_cell (k + 1) hl).1
          go_wp2_with fail
          go_roundw
          case rel => exact ⟨k + 1, by omega, by go_num, by rw [HS.out]; exact own.alloc _, hP.alloc _, hB.alloc zB _⟩
          case measure => simp [intOf]; omega
        · obtain rfl : k = 10 := by omega
          have hx2 : ∀ w : World, (Instr.index 68 (.agg partsC) (.int .i64 10)).run Try.prog w = .ok (.agg #[.int .u32 (fromN 10), .int .u8 (kindN 10)]) w := fun w => parts_at 10 (by omega) w
          clear hx
          go_wp2_with fail
          go_roundw
          case rel => exact ⟨11, by omega, by go_num, by rw [HS.out]; exact own.alloc _, hP.alloc _, hB.alloc zB _⟩
          case measure => simp [intOf]
    · obtain rfl : k = 11 := by omega
      go_wp2_with fail
      go_ret
      exact ⟨_, rfl, own, hB⟩
end Go.Proofs.Ytcckojleeojpiaa
