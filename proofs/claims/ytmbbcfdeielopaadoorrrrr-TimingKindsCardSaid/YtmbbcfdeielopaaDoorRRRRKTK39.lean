/-
  Texts of these proofs, one behind the other: Tm12, Tm14.
-/
import Derived.Test.YtmbbcfdeielopaaDoorRRRRKTK30
import Derived.Test.YtmbbcfdeielopaaDoorRRRRKTK37
import Derived.Test.YtmbbcfdeielopaaDoorRRRRKTK28
import Derived.Test.YtmbbcfdeielopaaDoorRRRRKTK38
import Derived.OpenShut
import Derived.ProofKit
import Derived.Test.YtmbbcfdeielopaaDoorRRRRKTK54
import Derived.Deep.QuietTactic
import Derived.BigQuiet
namespace Go.Proofs.YtmbbcfdeielopaaDoorRRRR
open Go.ChangeShapes Go.WideShapes Go.Deep Go.RowKit
set_option linter.unusedVariables false
set_option linter.unusedSimpArgs false
set_option maxRecDepth 100000
section
variable {H : Type} {enc : TypeId × Value → H} {P : Program} {w : World} {base : Nat} {r : Reach} {b0 : Nat} {e : TypeId} {v : Value} {d : DataW H} {ps : List MemPlace} {f0 f1 f2 f3 : Field}
/-- Three bools and an integer, by value. -/
theorem facts_value (he : P.underlying e = some (.struct #[f0, f1, f2, f3])) (hone : oneCellFields P #[f0, f1, f2, f3] = true) (hC : P.cellsOf e = 4)
    (h0 : P.underlying f0.type = some .bool) (h1 : P.underlying f1.type = some .bool) (h2 : P.underlying f2.type = some .bool) (h3 : P.underlying f3.type = some (.int .i64))
    (hval : Value.okWide P w r b0 e v) (hd : DataW.Trod enc P w base (fun _ => true) true e v d ps) :
    ∃ (T D K : Bool) (n : Int), v = .agg (fcA T D K n) ∧ (Lit.int .i64 n).wf = true := by
  obtain ⟨v0, v1, v2, v3, y0, y1, y2, y3, n, rfl, _, _, t0, t1, t2, t3⟩ := Go.Joins.open_agg4 he hone hC hval hd
  obtain ⟨a, e0, _⟩ := DataW.trod_bool h0 t0
  obtain ⟨b, e1, _⟩ := DataW.trod_bool h1 t1
  obtain ⟨c, e2, _⟩ := DataW.trod_bool h2 t2
  obtain ⟨z, e3, _, wz⟩ := DataW.trod_int h3 t3
  simp only [List.cons.injEq, and_true] at e0 e1 e2 e3
  subst e0 e1 e2 e3
  exact ⟨a, b, c, z, rfl, wz⟩
end
theorem tmL_ok (b : Nat) (hb : b < 256) (T D K : Bool) (n : Int) : (∀ c ∈ tmL b T D K n, okL c = true) ∧ (tmL b T D K n).length ≤ 400000 := by
  obtain ⟨ok1, ln1, ok2, ln2, ok3, ok4⟩ := tmA_ok ⟨b, hb⟩ T D K
  dsimp only at ok1 ln1 ok2 ln2 ok3 ok4
  have hmv := tmMv_bd (opM b) n
  refine ⟨fun c hc => ?_, by rw [tmL_len]; omega⟩
  unfold tmL at hc
  simp only [List.mem_append] at hc
  rcases hc with (hc | hc) | hc
  · exact List.all_eq_true.1 ok1 c hc
  · simp only [repL, List.mem_flatten, List.mem_replicate] at hc
    obtain ⟨l, ⟨_, rfl⟩, hc⟩ := hc
    exact List.all_eq_true.1 (show ([68, 76, 68, 68, 83, 68] : List UInt8).all okL = true by decide) c hc
  · exact List.all_eq_true.1 ok2 c hc
theorem rlet_any (b : Nat) (hb : b < 256) (T D K : Bool) (n : Int) (h : opM b = 19 → n ≤ 1000) (w : World) :
    Calls Tryd.prog 12 #[.int .u8 (b : Int), .bool T, .bool D, .bool K, .int .i64 n] w fun e w' => e = .returned (.string (mkS (tmL b T D K n))) ∧ Below w.heap.size w w' := by
  rw [tm_eq b hb]
  by_cases h19 : opM b = 19
  · exact rlet_block b hb h19 T D K n (h h19) w
  · exact rlet_oth b hb h19 T D K n w
theorem rkinds_own (l : List UInt8) (hl : l.length ≤ 1000000) (hok : ∀ c ∈ l, okL c = true) (w : World) : Calls Tryd.prog 11 #[.string (mkS l)] w (LK w l) :=
  (rkinds_any (mkS l) (by rw [mkS_size]; exact hl) hok w).mono fun e w' h => by
    obtain ⟨v, rfl, own, hb⟩ := h
    exact ⟨v, rfl, ownK_of own hok, hb⟩
theorem tlist_own (b : Nat) (hb : b < 256) (T D K : Bool) (n : Int) (w : World) : Calls Tryd.prog 7 #[.int .u8 (b : Int), .agg (fcA T D K n)] w (LK w (tmL b T D K n)) :=
  (tlist_any b hb T D K n w).mono fun e w' h => by
    obtain ⟨v, rfl, own, hbb⟩ := h
    exact ⟨v, rfl, ownK_of own (tmL_ok b hb T D K n).1, hbb⟩
theorem same_own {w : World} {A B : Option Addr} {c d : Nat} {l : List UInt8} (hl : l.length ≤ 1000000) (h1 : IRow w .u8 A l.length (fun i => (kdL l).getD i 0)) (h2 : IRow w .u8 B l.length (fun i => (kdL l).getD i 0)) :
    Calls Tryd.prog 10 #[.slice A l.length c, .slice B l.length d] w fun e w' => e = .returned (.bool true) ∧ Below w.heap.size w w' :=
  asame2 (by unfold maxLen; omega) h1 h2 fun _ _ => rfl
theorem rof_mode {b : Nat} (hb : b < 256) : (opM b = 19 ↔ ((opM b : Int) == 19) = true) := by
  simp
  omega
end Go.Proofs.YtmbbcfdeielopaaDoorRRRR
namespace Go.Proofs.YtmbbcfdeielopaaDoorRRRR
open Go.RowKit
set_option linter.unusedVariables false
set_option linter.unusedSimpArgs false
set_option maxRecDepth 100000
set_option maxHeartbeats 8000000
def zst : Nat → Int := fun _ => 0
theorem zst_ok : StOk zst := fun i _ => ⟨Int.le_refl _, by unfold zst mostP; split <;> (try split) <;> omega⟩
/-- The kind of the access i of an entry. -/
def enK (k i : Nat) : Int := (kdL (enL k)).getD i 0
theorem enL_len (k : Nat) (hk : 1 ≤ k ∧ k ≤ 5) : (enL k).length = 8 := by unfold enL; split <;> (try split) <;> first | rfl | omega
theorem enL_ok (k : Nat) : ∀ c ∈ enL k, okL c = true := by unfold enL; split <;> (try split) <;> decide
theorem spL_kd (k : Nat) (hk : 1 ≤ k ∧ k ≤ 5) (i : Nat) (hi : i < 8) (d2 : Int) : (spL (plL k zst d2))[i * 4]? = some (.int .u8 (enK k i)) := by
  have h8 : i = 0 ∨ i = 1 ∨ i = 2 ∨ i = 3 ∨ i = 4 ∨ i = 5 ∨ i = 6 ∨ i = 7 := by omega
  by_cases h1 : k = 1
  · subst h1
    rcases h8 with rfl | rfl | rfl | rfl | rfl | rfl | rfl | rfl <;> rfl
  · have e : enL k = [68, 68, 80, 80, 80, 86, 86, 68] := by unfold enL; rw [if_neg h1, if_pos (by omega)]
    unfold enK
    rw [e]
    rcases h8 with rfl | rfl | rfl | rfl | rfl | rfl | rfl | rfl <;> simp [spL, plL, plA, plP, h1, spC, kdL] <;> decide
theorem chrT_bd (x : Int) (x0 : 0 ≤ x) : 0 ≤ chrT x ∧ chrT x ≤ 255 := by
  unfold chrT
  split
  · have h : x = 0 ∨ x = 1 ∨ x = 2 ∨ x = 3 ∨ x = 4 ∨ x = 5 ∨ x = 6 ∨ x = 7 := by omega
    rcases h with rfl | rfl | rfl | rfl | rfl | rfl | rfl | rfl <;> decide
  · decide
theorem txt_index (z : Nat → Int) (n j : Nat) (h : j < n) (z0 : 0 ≤ z j) (W : World) : (Instr.index 9 (.string (strOfNums (txtN z n))) (.int .i64 (j : Int))).run Tryd.prog W = .ok (.int .u8 (chrT (z j))) W := by
  have hs : j < (strOfNums (txtN z n)).size := by rw [strOfNums_size, txtN_len]; exact h
  rw [str_index _ j hs W]
  have hb := chrT_bd (z j) z0
  have : (((strOfNums (txtN z n)).data[j]'hs).toNat : Int) = chrT (z j) := by
    simp only [strOfNums, txtN, List.map_map, List.getElem_toArray, List.getElem_map, List.getElem_range, Function.comp]
    simp
    omega
  rw [this]
end Go.Proofs.YtmbbcfdeielopaaDoorRRRR
