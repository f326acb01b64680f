/-
  Texts of these proofs, one behind the other: Tm12, Tm13.
-/
import Derived.Test.YtmbbcfdeielopaaDoorRRRRKTM31
import Derived.Test.YtmbbcfdeielopaaDoorRRRRKTM37
import Derived.Test.YtmbbcfdeielopaaDoorRRRRKTM28
import Derived.Test.YtmbbcfdeielopaaDoorRRRRKTM38
import Derived.OpenShut
import Derived.ProofKit
namespace Go.Proofs.YtmbbcfdeielopaaDoorRRRR
open Go.ChangeShapes Go.WideShapes Go.Deep Go.RowKit
set_option linter.unusedVariables false
set_option linter.unusedSimpArgs false
set_option maxRecDepth 100000
section
variable {H : Type} {enc : TypeId × Value → H} {P : Program} {w : World} {base : Nat} {r : Reach} {b0 : Nat} {e : TypeId} {v : Value} {d : DataW H} {ps : List MemPlace} {f0 f1 f2 f3 : Field}
/-- Three bools and an integer, by value. -/
theorem facts_value (he : P.underlying e = some (.struct #[f0, f1, f2, f3])) (hone : oneCellFields P #[f0, f1, f2, f3] = true) (hC : P.cellsOf e = 4)
    (h0 : P.underlying f0.type = some .bool) (h1 : P.underlying f1.type = some .bool) (h2 : P.underlying f2.type = some .bool) (h3 : P.underlying f3.type = some (.int .i64))
    (hval : Value.okWide P w r b0 e v) (hd : DataW.Trod enc P w base (fun _ => true) true e v d ps) :
    ∃ (T D K : Bool) (n : Int), v = .agg (fcA T D K n) ∧ (Lit.int .i64 n).wf = true := by
  obtain ⟨v0, v1, v2, v3, y0, y1, y2, y3, n, rfl, _, _, t0, t1, t2, t3⟩ := Go.Joins.open_agg4 he hone hC hval hd
  obtain ⟨a, e0, _⟩ := DataW.trod_bool h0 t0
  obtain ⟨b, e1, _⟩ := DataW.trod_bool h1 t1
  obtain ⟨c, e2, _⟩ := DataW.trod_bool h2 t2
  obtain ⟨z, e3, _, wz⟩ := DataW.trod_int h3 t3
  simp only [List.cons.injEq, and_true] at e0 e1 e2 e3
  subst e0 e1 e2 e3
  exact ⟨a, b, c, z, rfl, wz⟩
end
theorem tmL_ok (b : Nat) (hb : b < 256) (T D K : Bool) (n : Int) : (∀ c ∈ tmL b T D K n, okL c = true) ∧ (tmL b T D K n).length ≤ 400000 := by
  obtain ⟨ok1, ln1, ok2, ln2, ok3, ok4⟩ := tmA_ok ⟨b, hb⟩ T D K
  dsimp only at ok1 ln1 ok2 ln2 ok3 ok4
  have hmv := tmMv_bd (opM b) n
  refine ⟨fun c hc => ?_, by rw [tmL_len]; omega⟩
  unfold tmL at hc
  simp only [List.mem_append] at hc
  rcases hc with (hc | hc) | hc
  · exact List.all_eq_true.1 ok1 c hc
  · simp only [repL, List.mem_flatten, List.mem_replicate] at hc
    obtain ⟨l, ⟨_, rfl⟩, hc⟩ := hc
    exact List.all_eq_true.1 (show ([68, 76, 68, 68, 83, 68] : List UInt8).all okL = true by decide) c hc
  · exact List.all_eq_true.1 ok2 c hc
theorem rlet_any (b : Nat) (hb : b < 256) (T D K : Bool) (n : Int) (h : opM b = 19 → n ≤ 1000) (w : World) :
    Calls Tryd.prog 12 #[.int .u8 (b : Int), .bool T, .bool D, .bool K, .int .i64 n] w fun e w' => e = .returned (.string (mkS (tmL b T D K n))) ∧ Below w.heap.size w w' := by
  rw [tm_eq b hb]
  by_cases h19 : opM b = 19
  · exact rlet_block b hb h19 T D K n (h h19) w
  · exact rlet_oth b hb h19 T D K n w
theorem rkinds_own (l : List UInt8) (hl : l.length ≤ 1000000) (hok : ∀ c ∈ l, okL c = true) (w : World) : Calls Tryd.prog 11 #[.string (mkS l)] w (LK w l) :=
  (rkinds_any (mkS l) (by rw [mkS_size]; exact hl) hok w).mono fun e w' h => by
    obtain ⟨v, rfl, own, hb⟩ := h
    exact ⟨v, rfl, ownK_of own hok, hb⟩
theorem tlist_own (b : Nat) (hb : b < 256) (T D K : Bool) (n : Int) (w : World) : Calls Tryd.prog 7 #[.int .u8 (b : Int), .agg (fcA T D K n)] w (LK w (tmL b T D K n)) :=
  (tlist_any b hb T D K n w).mono fun e w' h => by
    obtain ⟨v, rfl, own, hbb⟩ := h
    exact ⟨v, rfl, ownK_of own (tmL_ok b hb T D K n).1, hbb⟩
theorem same_own {w : World} {A B : Option Addr} {c d : Nat} {l : List UInt8} (hl : l.length ≤ 1000000) (h1 : IRow w .u8 A l.length (fun i => (kdL l).getD i 0)) (h2 : IRow w .u8 B l.length (fun i => (kdL l).getD i 0)) :
    Calls Tryd.prog 10 #[.slice A l.length c, .slice B l.length d] w fun e w' => e = .returned (.bool true) ∧ Below w.heap.size w w' :=
  asame2 (by unfold maxLen; omega) h1 h2 fun _ _ => rfl
theorem rof_mode {b : Nat} (hb : b < 256) : (opM b = 19 ↔ ((opM b : Int) == 19) = true) := by
  simp
  omega
end Go.Proofs.YtmbbcfdeielopaaDoorRRRR
namespace Go.Proofs.YtmbbcfdeielopaaDoorRRRR
set_option linter.unusedVariables false
set_option linter.unusedSimpArgs false
set_option maxRecDepth 100000
set_option maxHeartbeats 8000000
theorem knd_not {c : UInt8} (h : c ∈ ([79, 68, 76, 83, 80, 85, 86] : List UInt8)) : 1 ≤ (knd c : Int) ∧ (knd c : Int) ≤ 7 := by
  simp only [List.mem_cons, List.not_mem_nil, or_false] at h
  rcases h with rfl | rfl | rfl | rfl | rfl | rfl | rfl <;> decide
theorem cnt_facts (u : Nat) (hu : u < 256) : (opM u = 19 → cntM u = 393233) ∧ (opM u ≠ 19 → cntM u = ((tmL u true true true 0).length : Int)) := by
  unfold cntM
  rw [tmL_len, tmL_len]
  refine ⟨fun h => ?_, fun h => ?_⟩
  · have h2 : (tmA (opN u) (opM u) true true true).length = 11 ∧ (tmB (opM u)).length = 6 := by rw [h]; exact ⟨rfl, rfl⟩
    have h3 : tmMv (opM u) 65536 = 65536 := by unfold tmMv; rw [if_pos h]; rfl
    omega
  · have h3 : tmMv (opM u) 65536 = 0 := if_neg h
    have h4 : tmMv (opM u) 0 = 0 := if_neg h
    omega
theorem tmL_facts (b : Nat) (hb : b < 256) (T D K : Bool) (n : Int) : 2 ≤ (tmL b T D K n).length ∧ (tmL b T D K n).length ≤ 393233 ∧ (kdL (tmL b T D K n)).getD 0 0 = 0 ∧
    (∀ j, 1 ≤ j → j < (tmL b T D K n).length → 1 ≤ (kdL (tmL b T D K n)).getD j 0 ∧ (kdL (tmL b T D K n)).getD j 0 ≤ 7) := by
  obtain ⟨a1, a2, a3, a4, a5, a6⟩ := tmA_bd ⟨b, hb⟩ T D K
  dsimp only at a1 a2 a3 a4 a5 a6
  have hmv := tmMv_bd (opM b) n
  obtain ⟨x, r, hx⟩ : ∃ x r, tmA (opN b) (opM b) T D K = x :: r := by
    cases h : tmA (opN b) (opM b) T D K with
    | nil => rw [h] at a1; simp at a1
    | cons x r => exact ⟨x, r, rfl⟩
  rw [hx] at a3 a4
  simp only [List.head?_cons, Option.some.injEq, List.drop_succ_cons, List.drop_zero] at a3 a4
  subst a3
  obtain ⟨r2, hr2⟩ : ∃ r2, tmL b T D K n = 70 :: r2 ∧ ∀ c ∈ r2, c ∈ ([79, 68, 76, 83, 80, 85, 86] : List UInt8) := by
    refine ⟨r ++ repL [68, 76, 68, 68, 83, 68] (tmMv (opM b) n) ++ tmB (opM b), by unfold tmL; rw [hx]; rfl, fun c hc => ?_⟩
    simp only [List.mem_append] at hc
    rcases hc with (hc | hc) | hc
    · have := List.all_eq_true.1 a4 c hc
      exact of_decide_eq_true this
    · simp only [repL, List.mem_flatten, List.mem_replicate] at hc
      obtain ⟨l, ⟨_, rfl⟩, hc⟩ := hc
      revert hc
      have : ∀ c ∈ ([68, 76, 68, 68, 83, 68] : List UInt8), c ∈ ([79, 68, 76, 83, 80, 85, 86] : List UInt8) := by decide
      exact this c
    · unfold tmB at hc
      split at hc
      · revert hc
        have : ∀ c ∈ ([68, 85, 85, 85, 68, 68] : List UInt8), c ∈ ([79, 68, 76, 83, 80, 85, 86] : List UInt8) := by decide
        exact this c
      · simp at hc
  refine ⟨by rw [tmL_len]; omega, ?_, ?_, fun j hj1 hj2 => ?_⟩
  · rw [tmL_len]
    by_cases h : opM b = 19
    · have h2 : (tmA (opN b) (opM b) T D K).length = 11 ∧ (tmB (opM b)).length = 6 := by rw [h]; exact ⟨rfl, rfl⟩
      omega
    · have h3 : tmMv (opM b) n = 0 := if_neg h
      have h4 : (tmB (opM b)).length = 0 := by unfold tmB; rw [if_neg h]; rfl
      omega
  · rw [hr2.1]; rfl
  · rw [hr2.1] at hj2 ⊢
    obtain ⟨i, rfl⟩ : ∃ i, j = i + 1 := ⟨j - 1, by omega⟩
    simp only [List.length_cons] at hj2
    have hi : i < r2.length := by omega
    have : (kdL (70 :: r2)).getD (i + 1) 0 = (knd r2[i] : Int) := by simp [kdL, List.getD, hi]
    rw [this]
    exact knd_not (hr2.2 _ (List.getElem_mem hi))
end Go.Proofs.YtmbbcfdeielopaaDoorRRRR
