/-
  Opcode: all names as a closed row; what must be whatever is asked.
-/
import Derived.Test.YtleofglnlfpoeaaDoorOpc7
import Derived.Test.YtleofglnlfpoeaaDoorOpc8
namespace Go.Proofs.YtleofglnlfpoeaaDoor
open Go.RowKit Go.Sort
set_option linter.unusedVariables false
set_option linter.unusedSimpArgs false
set_option maxRecDepth 100000
def ordN : List Nat := [97, 101, 105, 109, 113, 114, 117, 121, 125, 33, 37, 41, 45, 49, 50, 53, 57, 61, 6, 10, 14, 22, 30, 15, 31, 47, 63, 79, 95, 111, 127, 143, 159, 175, 191, 207, 223, 239, 255, 144, 176, 240, 36, 44, 52, 60, 137, 48, 208, 16, 128, 0, 68, 80, 112, 98, 24, 216, 88, 184, 130, 194, 193, 197, 201, 205, 209, 210, 213, 217, 221, 224, 228, 236, 192, 196, 204, 212, 84, 58, 198, 206, 214, 222, 202, 136, 65, 69, 73, 77, 81, 82, 85, 89, 93, 26, 230, 238, 246, 254, 232, 200, 76, 108, 124, 32, 161, 165, 169, 173, 177, 178, 181, 185, 189, 162, 166, 174, 182, 190, 160, 164, 172, 180, 188, 70, 74, 78, 86, 94, 234, 1, 5, 9, 13, 17, 18, 21, 25, 29, 72, 8, 218, 90, 104, 40, 250, 122, 7, 23, 39, 55, 71, 87, 103, 119, 38, 42, 46, 54, 62, 102, 106, 110, 118, 126, 64, 96, 34, 66, 225, 229, 233, 237, 241, 242, 245, 249, 253, 56, 248, 120, 244, 135, 151, 167, 183, 199, 215, 231, 247, 3, 19, 35, 129, 133, 141, 145, 146, 149, 153, 157, 134, 142, 150, 132, 140, 148, 100, 116, 156, 158, 2, 243, 83, 170, 168, 195, 227, 115, 211, 67, 20, 28, 4, 12, 131, 147, 163, 179, 186, 138, 154, 152]
def unqN : List Nat := [97, 33, 6, 15, 31, 47, 63, 79, 95, 111, 127, 143, 159, 175, 191, 207, 223, 239, 255, 144, 176, 240, 36, 48, 208, 16, 128, 0, 68, 80, 112, 98, 24, 216, 88, 184, 130, 194, 193, 224, 192, 212, 84, 58, 202, 136, 65, 26, 232, 200, 76, 32, 161, 162, 160, 70, 234, 1, 72, 8, 218, 90, 104, 40, 250, 122, 7, 23, 39, 55, 71, 87, 103, 119, 38, 102, 64, 96, 34, 66, 225, 56, 248, 120, 244, 135, 151, 167, 183, 199, 215, 231, 247, 3, 19, 35, 129, 134, 132, 100, 2, 243, 83, 170, 168, 195, 227, 115, 211, 67, 20, 4, 131, 186, 138, 154, 152]
def knN : List Nat := (List.range 256).filter fun i => opK i
theorem nmL_kn : nmL (knL 256) = knN.map opN := by
  unfold nmL knN
  rw [← knL_map 256 (by omega), List.map_map]
  rfl
theorem ord_perm : knN.Perm ordN := List.isPerm_iff.1 (by decide +kernel)
theorem ord_le : (ordN.map opN).Pairwise (· ≤ ·) := by decide +kernel
theorem ord_merge : (nmL (knL 256)).mergeSort (fun x y => decide (x ≤ y)) = ordN.map opN := by
  rw [nmL_kn]
  have h1 : ((knN.map opN).mergeSort (fun x y => decide (x ≤ y))).Perm (ordN.map opN) := (List.mergeSort_perm _ _).trans (ord_perm.map opN)
  have h2 := List.pairwise_mergeSort (le := fun (x y : List UInt8) => decide (x ≤ y)) (fun a b c h k => decide_eq_true (List.le_trans (of_decide_eq_true h) (of_decide_eq_true k))) (fun a b => by rcases List.le_total a b with h | h <;> simp [h]) (knN.map opN)
  exact h1.eq_of_pairwise (fun a b _ _ h k => List.le_antisymm (of_decide_eq_true h) (of_decide_eq_true k)) h2 (ord_le.imp fun h => decide_eq_true h)
theorem allN_eq : allN = unqN.map opN := by
  unfold allN
  rw [ord_merge]
  decide +kernel
theorem unq_lt : (unqN.map opN).Pairwise (· < ·) := by decide +kernel
theorem unq_len : unqN.length = 117 := by decide +kernel
theorem unq_fin : ∀ b : Fin 256, (unqN.filter fun i => opN i == opN b.val).length = 1 := by decide +kernel
theorem unq_kn : ∀ i ∈ unqN, opK i = true ∧ i < 256 := by decide +kernel
end Go.Proofs.YtleofglnlfpoeaaDoor
