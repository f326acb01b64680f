/-
  Texts of these proofs, one behind the other: St15, St16, St17.
-/
import Derived.Test.YtnnfnjbfjgjgnaaDoorKST40
import Derived.Test.YtnnfnjbfjgjgnaaDoorKST42
import Derived.Test.YtnnfnjbfjgjgnaaDoorKST38
import Derived.Test.YtnnfnjbfjgjgnaaDoorKST45
import Derived.Test.YtnnfnjbfjgjgnaaDoorKST12
namespace Go.Proofs.YtnnfnjbfjgjgnaaDoor
open Go.RowKit
set_option linter.unusedVariables false
set_option linter.unusedSimpArgs false
set_option maxRecDepth 100000
theorem exec_eql {o : Oper} {ρ : Operand → Value} {w : World} {x y : Operand} (r : Nat → Int) (ho : o.op = .binOp .eql 25 x y 25) (hx : ρ x = .agg (stA r)) (hy : ρ y = .agg (stA r)) : (execOp ρ o).run Tryd.prog w = .ok (.value (.bool true)) w := by
  have hg : (eqGuard .eql 25 x y (.agg (stA r)) (.agg (stA r))).run Tryd.prog w = .ok () w := run_eqGuard_agg w .eql 25 x y _ _ (by kernel_rfl)
  have he := st_eql_same r w
  unfold execOp
  simp only [ho, hx, hy, Sem.run_bind, hg, he, Result.andThen_ok, Sem.run_pure]
theorem row_load {o : Oper} {ρ : Operand → Value} {w : World} {x : Operand} {g : Nat} (r : Nat → Int) (ho : o.op = .load 25 x) (hx : ρ x = .pointer (some ⟨g, 0, none⟩)) (h : Blk w g 25 (stA r)) : (execOp ρ o).run Tryd.prog w = .ok (.value (.agg (stA r))) w :=
  exec_load_row 25 x ho g hx 25 (stA r) (0, 0) _ h Tryd.underlying25 rfl (h8_st r)
end Go.Proofs.YtnnfnjbfjgjgnaaDoor
namespace Go.Proofs.YtnnfnjbfjgjgnaaDoor
open Go.RowKit
set_option linter.unusedVariables false
set_option linter.unusedSimpArgs false
set_option maxRecDepth 100000
theorem byZ_bd {r : Nat → Int} (hr : StOk r) (i : Nat) (hi : i < 17) : 0 ≤ byZ r i ∧ byZ r i ≤ 255 := by
  have hp := st_pc hr
  unfold byZ
  by_cases h1 : i < 5
  · rw [if_pos h1]; exact st_le hr i (by omega) (by omega)
  · rw [if_neg h1]
    by_cases h2 : i = 5
    · rw [if_pos h2]; omega
    · rw [if_neg h2]
      by_cases h3 : i = 6
      · rw [if_pos h3]; omega
      · rw [if_neg h3]; exact st_le hr (i - 1) (by omega) (by omega)
theorem of_bytes {r : Nat → Int} (hr : StOk r) : stA (ofR 17 (byZ r)) = stA r ∧ ofE 17 (byZ r) = 0 := by
  have h15 : 0 ≤ r 15 ∧ r 15 ≤ 1 := hr 15 (by decide)
  have e : ofE 17 (byZ r) = 0 := by
    unfold ofE
    rw [if_neg (by decide), if_neg (by decide), if_neg (by show ¬ 1 < r 15; omega)]
  refine ⟨?_, e⟩
  unfold ofR
  rw [if_pos e]
  refine stA_congr fun i hi => ?_
  have hp := st_pc hr
  unfold ofZ
  by_cases h1 : i < 5
  · rw [if_pos h1]; unfold byZ; rw [if_pos h1]
  · rw [if_neg h1]
    by_cases h2 : i = 5
    · subst h2; rw [if_pos rfl]; show r 5 % 256 + 256 * (r 5 / 256) = r 5; omega
    · rw [if_neg h2]; unfold byZ; rw [if_neg (by omega), if_neg (by omega), if_neg (by omega)]; congr 1
theorem wpList_eql_want {ops : Array Oper} {rest : List Oper} {o : Oper} {a : Act} {w : World} {Q : Exit → Act → World → Prop} (hw : Region.wanted o (yielded ops a.tmps) = true) (x y : Operand) (r : Nat → Int) (ho : o.op = .binOp .eql 25 x y 25)
    (hx : a.eval x = .agg (stA r)) (hy : a.eval y = .agg (stA r)) (h : wpList Tryd.prog ops Q rest (a.put o.dst (.bool true)) w) : wpList Tryd.prog ops Q (o :: rest) a w :=
  wpList_step fun K hK => by
    rw [if_pos hw]
    unfold Oper.wp
    rw [exec_eql r ho hx hy, Oper.upon_value]
    exact hK _ _ h
end Go.Proofs.YtnnfnjbfjgjgnaaDoor
namespace Go.Proofs.YtnnfnjbfjgjgnaaDoor
open Go.RowKit
set_option linter.unusedVariables false
set_option linter.unusedSimpArgs false
set_option maxRecDepth 100000
theorem otl_pre (x y : Nat → Int) (q d : Nat) : ∃ L, otl x y (q + d) = otl x y q ++ L := by
  induction d with
  | zero => exact ⟨[], (List.append_nil _).symm⟩
  | succ d ih =>
    obtain ⟨L, h⟩ := ih
    rw [← Nat.add_assoc]
    simp only [otl]
    split
    · exact ⟨L, h⟩
    · exact ⟨L ++ [.string (nmS (q + d))], by rw [h, List.append_assoc]⟩
theorem otl_at (x y : Nat → Int) (q : Nat) (hq : q < 16) (h : x q ≠ y q) : (otl x y q).length < (otl x y 16).length ∧ (otl x y 16)[(otl x y q).length]? = some (.string (nmS q)) := by
  obtain ⟨L, hL⟩ := otl_pre x y (q + 1) (15 - q)
  rw [show q + 1 + (15 - q) = 16 by omega] at hL
  have e : otl x y (q + 1) = otl x y q ++ [.string (nmS q)] := by simp only [otl]; rw [if_neg h]
  rw [hL, e]
  constructor
  · simp
  · rw [List.append_assoc, List.getElem?_append_right (Nat.le_refl _), Nat.sub_self]
    rfl
theorem own_any {w : World} {B : Nat} {e : TypeId} {v : Value} {xs : List Value} (own : w.ownsRow B e 1 v xs.length xs) : ∃ A cap, v = .slice A xs.length cap ∧ ∀ i, i < xs.length → ∃ g, A = some ⟨g, 0, none⟩ ∧ g < w.heap.size ∧ w.cell? ⟨g, i, none⟩ = xs[i]? := by
  rcases own.2 with ⟨h, h0⟩ | ⟨g, cap, cur, h, hg, hb, hnc, hcm, hs, ht⟩
  · rw [h0]
    exact ⟨none, 0, h, fun i hi => absurd hi (by omega)⟩
  · have hblk : Blk w g e cur := hb
    refine ⟨some ⟨g, 0, none⟩, cap, h, fun i hi => ⟨g, rfl, hblk.lt, ?_⟩⟩
    rw [hblk.cell, ← ht, List.getElem?_take, if_pos (by omega), Array.getElem?_toList]
    try rw [ht]
end Go.Proofs.YtnnfnjbfjgjgnaaDoor
