/-
  Moves: ways, All.
-/
import Derived.Test.YtndhkdcdhpfajaaDoorMov2
import Derived.RangeFuncBox
import Derived.Maps.AppendAt
namespace Go.Proofs.YtndhkdcdhpfajaaDoor
open Go.RowKit Go.Shelf
set_option linter.unusedVariables false
set_option linter.unusedSimpArgs false
set_option maxRecDepth 100000
attribute [local go_sem] Oper.semAt_some
def wayV (bl bk bf bt : Nat) : Value := .func (.func 27) #[] #[.pointer (some ⟨bl, 0, none⟩), .pointer (some ⟨bk, 0, none⟩), .pointer (some ⟨bf, 0, none⟩), .pointer (some ⟨bt, 0, none⟩)]
def WayR (l k f t : Int) (w : World) (e : Ending) (w' : World) : Prop := ∃ bl bk bf bt, e = .returned (wayV bl bk bf bt) ∧ Way4 w' bl bk bf bt l k f t ∧ w.heap.size ≤ bl ∧ w.heap.size ≤ bk ∧ w.heap.size ≤ bf ∧ w.heap.size ≤ bt ∧ Below w.heap.size w w'
set_option maxHeartbeats 4000000 in
theorem vways_any (l k f t : Int) (w : World) : Calls Tryd.prog 25 #[.int .u8 k, .int .u16 f, .int .u16 t, .int .u16 l] w (WayR l k f t w) := by
  have hB : Below w.heap.size w ((((w.alloc (.cells #[.int .u8 k] 5)).alloc (.cells #[.int .u16 f] 22)).alloc (.cells #[.int .u16 t] 22)).alloc (.cells #[.int .u16 l] 22)) := ((((Below.refl _ w).alloc (Nat.le_refl _) _).alloc (by simp) _).alloc (by simp; omega) _).alloc (by simp; omega) _
  have h4 : Way4 ((((w.alloc (.cells #[.int .u8 k] 5)).alloc (.cells #[.int .u16 f] 22)).alloc (.cells #[.int .u16 t] 22)).alloc (.cells #[.int .u16 l] 22)) (w.heap.size + 1 + 1 + 1) w.heap.size (w.heap.size + 1) (w.heap.size + 1 + 1) l k f t :=
    ⟨Blk.new_ (by simp), (((Blk.new w _ _).alloc _).alloc _).alloc _, ((Blk.new_ (by simp)).alloc _).alloc _, (Blk.new_ (by simp)).alloc _⟩
  have HB := Lib.hid hB
  have H4 := Lib.hid h4
  clear hB h4
  go_enter Tryd.func25, Tryd.ntmps25
  go_wp2
  go_ret
  exact ⟨_, _, _, _, rfl, H4.out, by omega, by omega, by omega, by omega, HB.out⟩
/-- The cells of a row of ways. -/
def wyV (k : Nat) (f t : Int) (l : List Nat) : List Value := l.flatMap fun (x : Nat) => [.int .u16 (mvF k f (x : Int)), .int .u16 (mvT k t (x : Int))]
theorem wyV_snoc (k : Nat) (f t : Int) (l : List Nat) (x : Nat) : wyV k f t (l ++ [x]) = wyV k f t l ++ [.int .u16 (mvF k f (x : Int)), .int .u16 (mvT k t (x : Int))] := by simp [wyV]
def AllR (k : Nat) (f t l : Int) (w : World) (e : Ending) (w' : World) : Prop := ∃ v, e = .returned v ∧ w'.ownsRow w.heap.size 48 2 v (wayL k (cntP l).toNat).length (wyV k f t (wayL k (cntP l).toNat)) ∧ Below w.heap.size w w'
theorem mv_info : (Tryd.prog.info? 48).map (fun i => (i.zero, i.size, i.bytes)) = some (some (.agg #[.int .u16 0, .int .u16 0]), 2, 4) := by kernel_rfl
theorem cells_two_new (w : World) (x y : Value) (t : TypeId) : ∀ j u, [x, y][j]? = some u → (w.alloc (.cells #[x, y] t)).cell? ((⟨w.heap.size, 0, none⟩ : Addr).add j) = some u := by
  intro j u h
  rw [add_zero_block, (Blk.new w t #[x, y]).cell j]
  rcases j with _ | _ | j
  · exact h
  · exact h
  · simp at h
end Go.Proofs.YtndhkdcdhpfajaaDoor
