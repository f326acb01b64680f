/-
  Opcode: plain facts on bytes of a name and a mode, counted from the last one on.
-/
import Derived.Test.YtleofglnlfpoeaaDoorOpc11
namespace Go.Proofs.YtleofglnlfpoeaaDoor
open Go.RowKit
set_option linter.unusedVariables false
set_option maxRecDepth 100000
/-- The last c bytes, rising. -/
def lsF : Nat → List Nat
  | 0 => []
  | c + 1 => (255 - c) :: lsF c
theorem lsF_all : lsF 256 = List.range 256 := by decide +kernel
def nmK (s : List UInt8) (b : Nat) : Bool := opK b && (opN b == s)
def ftK (s : List UInt8) (m : Int) (b : Nat) : Bool := nmK s b && ((opM b : Int) == m)
def nF (s : List UInt8) (m : Int) (c : Nat) : Nat := ((lsF c).filter fun b => ftK s m b).length
def fF (s : List UInt8) (m : Int) (c : Nat) : Nat := ((lsF c).filter fun b => ftK s m b).headD 0
def hF (s : List UInt8) (c : Nat) (i : Nat) : Bool := (lsF c).any fun b => nmK s b && (opM b == i)
theorem nF_yes (s : List UInt8) (m : Int) (c : Nat) (h : ftK s m (255 - c) = true) : nF s m (c + 1) = nF s m c + 1 ∧ fF s m (c + 1) = 255 - c := by unfold nF fF; rw [lsF]; simp [h]
theorem nF_no (s : List UInt8) (m : Int) (c : Nat) (h : ftK s m (255 - c) = false) : nF s m (c + 1) = nF s m c ∧ fF s m (c + 1) = fF s m c := by unfold nF fF; rw [lsF]; simp [h]
theorem hF_yes (s : List UInt8) (c : Nat) (h : nmK s (255 - c) = true) (i : Nat) : hF s (c + 1) i = (if i = opM (255 - c) then true else hF s c i) := by
  unfold hF; rw [lsF]
  simp only [List.any_cons, h, Bool.true_and]
  by_cases e : i = opM (255 - c)
  · rw [if_pos e, ← e]; simp
  · rw [if_neg e]
    have : (opM (255 - c) == i) = false := by rw [beq_eq_false_iff_ne]; exact fun h => e h.symm
    rw [this, Bool.false_or]
theorem hF_no (s : List UInt8) (c : Nat) (h : nmK s (255 - c) = false) (i : Nat) : hF s (c + 1) i = hF s c i := by
  unfold hF; rw [lsF]
  simp only [List.any_cons, h, Bool.false_and, Bool.false_or]
theorem nF_le (s : List UInt8) (m : Int) : ∀ c, nF s m c ≤ c
  | 0 => by simp [nF, lsF]
  | c + 1 => by
    have := nF_le s m c
    cases h : ftK s m (255 - c) with
    | true => have := (nF_yes s m c h).1; omega
    | false => have := (nF_no s m c h).1; omega
theorem one_fin : ∀ b : Fin 256, (knN.filter fun i => (opN i == opN b.val) && (opM i == opM b.val)).length ≤ 1 := by decide +kernel
theorem ftK_kn (s : List UInt8) (m : Int) : ((List.range 256).filter fun b => ftK s m b) = knN.filter fun i => fitB s m i := by
  unfold knN
  rw [List.filter_filter]
  congr 1
  funext b
  unfold ftK nmK fitB
  cases opK b <;> simp
theorem nF_one (s : List UInt8) (m : Int) : nF s m 256 ≤ 1 := by
  unfold nF
  rw [lsF_all, ftK_kn]
  rcases hq : knN.filter fun i => fitB s m i with _ | ⟨x, r⟩
  · simp
  · have hx : x ∈ knN.filter fun i => fitB s m i := by rw [hq]; simp
    rw [List.mem_filter] at hx
    have h256 : x < 256 := by have := hx.1; unfold knN at this; rw [List.mem_filter] at this; simpa using this.1
    have hf := hx.2
    unfold fitB at hf
    simp only [Bool.and_eq_true, beq_iff_eq] at hf
    have := one_fin ⟨x, h256⟩
    dsimp only at this
    rw [← hq]
    refine Nat.le_trans (Nat.le_of_eq ?_) this
    congr 2
    funext i
    unfold fitB
    rw [← hf.1, ← hf.2]
    congr 1
    by_cases e : opM i = opM x
    · rw [e, beq_self_eq_true, beq_self_eq_true]
    · have h3 : ¬ (opM i : Int) = (opM x : Int) := by omega
      rw [beq_eq_false_iff_ne.2 e, beq_eq_false_iff_ne.2 h3]
/-- What Find finds is the one that is counted, or none is. -/
theorem find_one (s : List UInt8) (m : Int) : (findF s m (knL 256) = none ∧ nF s m 256 = 0 ∧ fF s m 256 = 0) ∨ ∃ x : Fin 256, findF s m (knL 256) = some x ∧ nF s m 256 = 1 ∧ fF s m 256 = x.val := by
  have h1 := nF_one s m
  have e := findF_kn s m
  have hh : knN.find? (fun i => fitB s m i) = (knN.filter fun i => fitB s m i).head? := (List.head?_filter ..).symm
  unfold nF fF at *
  rw [lsF_all, ftK_kn] at *
  rw [hh] at e
  rcases hq : knN.filter fun i => fitB s m i with _ | ⟨x, r⟩
  · rw [hq] at e
    refine .inl ⟨?_, rfl, rfl⟩
    simpa using e
  · rw [hq] at e h1
    obtain ⟨y, hy, hv⟩ := Option.map_eq_some_iff.1 e
    have hr : r = [] := by
      cases r with
      | nil => rfl
      | cons a t => simp only [List.length_cons] at h1; omega
    subst hr
    refine .inr ⟨y, hy, rfl, ?_⟩
    simpa using hv.symm
/-- The modes of a name, rising. -/
def wmL (s : List UInt8) (k : Nat) : List Nat := (List.range k).filter fun i => hF s 256 i
theorem wmL_yes (s : List UInt8) (k : Nat) (h : hF s 256 k = true) : wmL s (k + 1) = wmL s k ++ [k] := by unfold wmL; rw [List.range_succ, List.filter_append]; simp [h]
theorem wmL_no (s : List UInt8) (k : Nat) (h : hF s 256 k = false) : wmL s (k + 1) = wmL s k := by unfold wmL; rw [List.range_succ, List.filter_append]; simp [h]
theorem wmL_len (s : List UInt8) (k : Nat) : (wmL s k).length ≤ k := by unfold wmL; exact Nat.le_trans (List.length_filter_le _ _) (by simp)
def mlN (s : List UInt8) : List Nat := (knN.filter fun i => opN i == s).map opM
theorem ml_fin : ∀ b : Fin 256, ((List.range 20).filter fun i => (mlN (opN b.val)).any (· == i)).isPerm (mlN (opN b.val)) = true := by decide +kernel
theorem hF_ml (s : List UInt8) (i : Nat) : hF s 256 i = (mlN s).any (· == i) := by
  unfold hF mlN knN
  rw [lsF_all, List.any_map, List.filter_filter, List.any_filter]
  congr 1
  funext b
  unfold nmK
  simp only [Function.comp]
  cases opK b <;> cases (opN b == s) <;> simp
theorem wm_perm (s : List UInt8) : (wmL s 20).Perm (mlN s) := by
  have e : wmL s 20 = (List.range 20).filter fun i => (mlN s).any (· == i) := by
    unfold wmL; congr 1; funext i; exact hF_ml s i
  rw [e]
  rcases hq : knN.filter fun i => opN i == s with _ | ⟨x, r⟩
  · have hm : mlN s = [] := by unfold mlN; rw [hq]; rfl
    rw [hm]
    simp
  · have hx : x ∈ knN.filter fun i => opN i == s := by rw [hq]; simp
    rw [List.mem_filter] at hx
    have h256 : x < 256 := by have := hx.1; unfold knN at this; rw [List.mem_filter] at this; simpa using this.1
    have hs : opN x = s := by simpa using hx.2
    rw [← hs]
    exact List.isPerm_iff.1 (ml_fin ⟨x, h256⟩)
theorem wm_sort (s : List UInt8) : sortL (mdL s (knL 256)) = (wmL s 20).map fun i : Nat => (i : Int) := by
  have e : mdL s (knL 256) = (mlN s).map fun i : Nat => (i : Int) := by
    rw [mdL_map]
    unfold mlN knN
    rw [List.map_map]
    rfl
  have h1 : (sortL (mdL s (knL 256))).Perm ((wmL s 20).map fun i : Nat => (i : Int)) := by
    refine (sortL_perm _).trans ?_
    rw [e]
    exact ((wm_perm s).map _).symm
  refine h1.eq_of_pairwise (fun a b _ _ h k => Int.le_antisymm h k) (sortL_le _) ?_
  rw [List.pairwise_map]
  unfold wmL
  exact (List.pairwise_le_range.filter _).imp fun h => by omega
end Go.Proofs.YtleofglnlfpoeaaDoor
