/-
  Pages: Get of none, Port and its table.
-/
import Derived.Test.YtccimkmlbcgekaaDoorMmu4
namespace Go.Proofs.YtccimkmlbcgekaaDoor
open Go.RowKit Go.Shelf
set_option linter.unusedVariables false
set_option linter.unusedSimpArgs false
set_option maxRecDepth 100000
attribute [local go_sem] Oper.semAt_some
theorem mget_nil (m : Int) (w : World) : Calls Tryd.prog 42 #[.pointer none, .int .u8 m] w fun e w' => e = .returned (.int .u8 0) ∧ Below w.heap.size w w' := by
  have hB : Below w.heap.size w (w.alloc (.cells #[.pointer none] 25)) := (Below.refl _ w).alloc (Nat.le_refl _) _
  have HB := Lib.hid hB
  clear hB
  refine (callsIn_wide (n := 6)).1 ?_
  refine callsIn_of_wp_marks Tryd.func42 rfl trivial ?_ rfl
  simp only [Tryd.ntmps42, List.size_toArray, List.length_cons, List.length_nil, Nat.reduceAdd, Nat.reduceSub, Array.replicate_succ, Array.replicate_zero, List.push_toArray, List.append_toArray, List.nil_append, List.cons_append]
  gi_wp2
  exact ⟨_, results_tmp rfl _ _ _, rfl, HB.out⟩
/-- In the block b lie n numbers of 16 bits. -/
def Tab16 (w : World) (b n : Nat) (f : Nat → Int) : Prop := b < w.heap.size ∧ ∀ k, k < n → w.cell? ⟨b, k, none⟩ = some (.int .u16 (f k))
section
variable {w w' : World} {b n : Nat} {f : Nat → Int} {L : List Nat}
theorem Tab16.keep {B : Nat} (h : Tab16 w b n f) (hb : Below B w w') (hB : b < B) : Tab16 w' b n f := ⟨Nat.lt_of_lt_of_le h.1 hb.size, fun k hk => (World.cell?_of_block (hb.block b hB)).trans (h.2 k hk)⟩
theorem Tab16.below (h : Tab16 w b n f) (hb : Below w.heap.size w w') : Tab16 w' b n f := h.keep hb h.1
theorem Tab16.kp (h : Tab16 w b n f) (k : Kp L w w') (hL : b ∉ L) : Tab16 w' b n f := ⟨Nat.lt_of_lt_of_le h.1 k.size, fun j hj => (k.cell h.1 hL).trans (h.2 j hj)⟩
end
/-- The three places. -/
def prt (k : Nat) : Int := match k with | 0 => 0 | 1 => 2 | _ => 3
theorem mport_out (n : Int) (h : n < 0 ∨ 2 < n) (w : World) : Calls Tryd.prog 45 #[.int .i64 n] w fun e w' => e = .returned (.tuple #[.int .u32 0, .bool false]) ∧ w = w' := by
  by_cases h0 : n < 0
  · clear h
    go_enter Tryd.func45, Tryd.ntmps45
    go_wp2
    go_ret2
    exact ⟨rfl, rfl⟩
  · have h3 : 3 ≤ n := by omega
    clear h
    go_enter Tryd.func45, Tryd.ntmps45
    go_wp2
    go_ret2
    exact ⟨rfl, rfl⟩
theorem mport_any {w : World} (h : Tab16 w 1 3 prt) (k : Nat) (hk : k < 3) : Calls Tryd.prog 45 #[.int .i64 (k : Int)] w fun e w' => e = .returned (.tuple #[.int .u32 (2088960 + prt k), .bool true]) ∧ w = w' := by
  have c0 := h.2 k hk
  have i0 : ¬ (k : Int) < 0 := by omega
  have i1 : ¬ (3 : Int) ≤ (k : Int) := by omega
  have i2 : (0 : Int) ≤ (k : Int) := by omega
  have i3 : (k : Int) < 3 := by omega
  obtain ⟨p, hp⟩ : ∃ p, prt k = p := ⟨_, rfl⟩
  have hp3 : 0 ≤ p ∧ p ≤ 3 := by
    rw [← hp]
    have : k = 0 ∨ k = 1 ∨ k = 2 := by omega
    rcases this with rfl | rfl | rfl <;> decide
  rw [hp] at c0 ⊢
  have HP := Lib.hid hp3
  clear hp hp3 h
  go_enter Tryd.func45, Tryd.ntmps45
  go_wp2_with fail
  refine (addr_any 255 p _ (by omega) (by omega) HP.out.1 (by have := HP.out.2; omega)).mono ?_
  rw [show (255 : Int) * 8192 + p % 8192 = 2088960 + p by have := HP.out; omega]
  rintro e w' ⟨rfl, rfl⟩
  go_wp2_with fail
  go_ret2
  exact ⟨rfl, rfl⟩
end Go.Proofs.YtccimkmlbcgekaaDoor
