/-
  Opcode: the reference's Behind and cycles.
-/
import Derived.Test.YtleofglnlfpoeaaDoorRop1
import Derived.Test.YtleofglnlfpoeaaDoorG1
namespace Go.Proofs.YtleofglnlfpoeaaDoor
open Go.RowKit
set_option linter.unusedVariables false
set_option linter.unusedSimpArgs false
set_option maxRecDepth 100000
def rbhL : List Int := [0, 1, 1, 1, 1, 2, 2, 2, 1, 1, 1, 1, 2, 2, 2, 3, 3, 2, 2, 6]
def rcyL : List Int := [0, 0, 0, 0, 0, 0, 0, 0, 7, 7, 7, 0, 6, 7, 7, 8, 8, 7, 7, 17]
def rbhC : Array Value := #[.int .i64 0, .int .i64 1, .int .i64 1, .int .i64 1, .int .i64 1, .int .i64 2, .int .i64 2, .int .i64 2, .int .i64 1, .int .i64 1, .int .i64 1, .int .i64 1, .int .i64 2, .int .i64 2, .int .i64 2, .int .i64 3, .int .i64 3, .int .i64 2, .int .i64 2, .int .i64 6]
def rcyC : Array Value := #[.int .i64 0, .int .i64 0, .int .i64 0, .int .i64 0, .int .i64 0, .int .i64 0, .int .i64 0, .int .i64 0, .int .i64 7, .int .i64 7, .int .i64 7, .int .i64 0, .int .i64 6, .int .i64 7, .int .i64 7, .int .i64 8, .int .i64 8, .int .i64 7, .int .i64 7, .int .i64 17]
def rbhA : List (Nat × Value) := [(0, .int .i64 0), (1, .int .i64 1), (2, .int .i64 1), (3, .int .i64 1), (4, .int .i64 1), (5, .int .i64 2), (6, .int .i64 2), (7, .int .i64 2), (8, .int .i64 1), (9, .int .i64 1), (10, .int .i64 1), (11, .int .i64 1), (12, .int .i64 2), (13, .int .i64 2), (14, .int .i64 2), (15, .int .i64 3), (16, .int .i64 3), (17, .int .i64 2), (18, .int .i64 2), (19, .int .i64 6)]
def rcyA : List (Nat × Value) := [(0, .int .i64 0), (1, .int .i64 0), (2, .int .i64 0), (3, .int .i64 0), (4, .int .i64 0), (5, .int .i64 0), (6, .int .i64 0), (7, .int .i64 0), (8, .int .i64 7), (9, .int .i64 7), (10, .int .i64 7), (11, .int .i64 0), (12, .int .i64 6), (13, .int .i64 7), (14, .int .i64 7), (15, .int .i64 8), (16, .int .i64 8), (17, .int .i64 7), (18, .int .i64 7), (19, .int .i64 17)]
theorem rbh_built : Tryd.prog.built 101 rbhA = some rbhC := by kernel_rfl
theorem rcy_built : Tryd.prog.built 101 rcyA = some rcyC := by kernel_rfl
theorem rbh_fin : ∀ m : Fin 20, rbhL.getD m.val 0 = bhP (m.val : Int) := by decide +kernel
theorem rbh_at (k : Nat) (hk : k < 20) : rbhC[k]? = some (.int .i64 (rbhL.getD k 0)) := by
  show (rbhL.map (Value.int .i64)).toArray[k]? = _
  have hl : k < rbhL.length := hk
  rw [List.getElem?_toArray, List.getElem?_map, List.getD_eq_getElem?_getD, List.getElem?_eq_getElem hl]; rfl
theorem rcy_at (k : Nat) (hk : k < 20) : rcyC[k]? = some (.int .i64 (rcyL.getD k 0)) := by
  show (rcyL.map (Value.int .i64)).toArray[k]? = _
  have hl : k < rcyL.length := hk
  rw [List.getElem?_toArray, List.getElem?_map, List.getD_eq_getElem?_getD, List.getElem?_eq_getElem hl]; rfl
def zero20 : Array Value := #[.int .i64 0, .int .i64 0, .int .i64 0, .int .i64 0, .int .i64 0, .int .i64 0, .int .i64 0, .int .i64 0, .int .i64 0, .int .i64 0, .int .i64 0, .int .i64 0, .int .i64 0, .int .i64 0, .int .i64 0, .int .i64 0, .int .i64 0, .int .i64 0, .int .i64 0, .int .i64 0]
set_option maxHeartbeats 8000000 in
theorem rbehind_any (m : Nat) (hm : m < 256) (w : World) : Calls Tryd.prog 46 #[.int .u8 (m : Int)] w fun e w' => e = .returned (.int .i64 (bhP ((m % 20 : Nat) : Int))) ∧ Below w.heap.size w w' := by
  have hst := fun W => run_storeCells_new (P := Tryd.prog) W 101 #[.int .i64 0, .int .i64 0, .int .i64 0, .int .i64 0, .int .i64 0, .int .i64 0, .int .i64 0, .int .i64 0, .int .i64 0, .int .i64 0, .int .i64 0, .int .i64 0, .int .i64 0, .int .i64 0, .int .i64 0, .int .i64 0, .int .i64 0, .int .i64 0, .int .i64 0, .int .i64 0] rbhC (by kernel_rfl) rfl (by kernel_rfl)
  have hB0 : Below w.heap.size w (w.alloc (.cells rbhC 101)) := (Below.refl _ w).alloc (Nat.le_refl _) _
  obtain ⟨k, hk⟩ : ∃ k, m % 20 = k := ⟨_, rfl⟩
  have hk20 : k < 20 := by omega
  rw [hk, ← rbh_fin ⟨k, hk20⟩]
  dsimp only
  have hc : (w.alloc (.cells rbhC 101)).cell? ⟨w.heap.size, k, none⟩ = some (.int .i64 (rbhL.getD k 0)) := by rw [(Blk.new w 101 rbhC).cell k]; exact rbh_at k hk20
  obtain ⟨h, hh⟩ : ∃ h, rbhL.getD k 0 = h := ⟨_, rfl⟩
  rw [hh] at hc ⊢
  have e1 : (m : Int) % 20 = (k : Int) := by omega
  have e2 : (m : Int).tmod 20 = (k : Int) := by rw [Int.tmod_eq_emod_of_nonneg (by omega)]; exact e1
  have e3 : IntKind.u8.wrap (k : Int) = k := IntWalk.u8_in _ (by omega)
  have e4 : (k : Int) < 20 := by omega
  have e5 : (0 : Int) ≤ k := by omega
  have HB := Lib.hid hB0
  clear hB0 hk hh
  go_enter Tryd.func46, Tryd.ntmps46
  go_wp2_with (refine wpList_build rfl 101 _ rfl rbhA (by rfl) rbhC rbh_built ?_)
  go_ret
  exact ⟨rfl, HB.out⟩
def rcyP (l : List UInt8) (m : Nat) : Int :=
  if m = 0 then (if inL l [[80, 72, 65], [80, 72, 80], [80, 72, 88], [80, 72, 89], [83, 65, 88], [83, 65, 89], [83, 88, 89], [67, 83, 76], [67, 83, 72]] = true then 3 else if inL l [[80, 76, 65], [80, 76, 80], [80, 76, 88], [80, 76, 89]] = true then 4 else if inL l [[82, 84, 83], [82, 84, 73]] = true then 7 else 2)
  else if m = 1 then (if inL l [[84, 77, 65], [83, 84, 48], [83, 84, 49], [83, 84, 50]] = true then 4 else if l = [84, 65, 77] then 5 else if l = [66, 82, 75] then 8 else 2)
  else if m = 2 ∨ m = 3 ∨ m = 4 then (if l.length = 4 then 7 else if rchP l = true then 6 else 4)
  else if m = 5 ∨ m = 6 ∨ m = 7 then (if rchP l = true then 7 else if l = [74, 83, 82] then 7 else if l = [74, 77, 80] then 4 else 5)
  else if m = 11 then (if l = [66, 82, 65] then 4 else if l = [66, 83, 82] then 8 else 2) else rcyL.getD m 0
theorem rcyP_fin : ∀ b : Fin 256, rcyP (opN b.val) (opM b.val) = (opY b.val : Int) := by decide +kernel
section
variable (s : ByteArray) (w : World)
set_option maxHeartbeats 8000000 in
theorem rcyc_0 : Calls Tryd.prog 47 #[.string s, .int .u8 0] w fun e w' => e = .returned (.int .i64 (rcyP s.toList 0)) ∧ Below w.heap.size w w' := by
  have h1 := fun W => rin_i3 s W
  have h2 := fun W => rin_i4 s W
  have h3 := fun W => rin_i7 s W
  have ez : rcyP s.toList 0 = if inL s.toList [[80, 72, 65], [80, 72, 80], [80, 72, 88], [80, 72, 89], [83, 65, 88], [83, 65, 89], [83, 88, 89], [67, 83, 76], [67, 83, 72]] = true then 3 else if inL s.toList [[80, 76, 65], [80, 76, 80], [80, 76, 88], [80, 76, 89]] = true then 4 else if inL s.toList [[82, 84, 83], [82, 84, 73]] = true then 7 else 2 := rfl
  generalize inL s.toList [[80, 72, 65], [80, 72, 80], [80, 72, 88], [80, 72, 89], [83, 65, 88], [83, 65, 89], [83, 88, 89], [67, 83, 76], [67, 83, 72]] = x1 at *
  generalize inL s.toList [[80, 76, 65], [80, 76, 80], [80, 76, 88], [80, 76, 89]] = x2 at *
  generalize inL s.toList [[82, 84, 83], [82, 84, 73]] = x3 at *
  rw [ez]
  clear ez
  have hb : Below w.heap.size w w := Below.refl _ _
  cases x1 <;> cases x2 <;> cases x3
  all_goals
    go_enter Tryd.func47, Tryd.ntmps47
    go_wp2_with (first
      | (go_at_call 83; refine (h1 _).mono ?_; clear h1; rintro e w' ⟨rfl, rfl⟩)
      | (go_at_call 83; refine (h2 _).mono ?_; clear h2; rintro e w' ⟨rfl, rfl⟩)
      | (go_at_call 83; refine (h3 _).mono ?_; clear h3; rintro e w' ⟨rfl, rfl⟩))
    go_ret
    exact ⟨rfl, hb⟩
set_option maxHeartbeats 8000000 in
theorem rcyc_1 : Calls Tryd.prog 47 #[.string s, .int .u8 1] w fun e w' => e = .returned (.int .i64 (rcyP s.toList 1)) ∧ Below w.heap.size w w' := by
  have h1 := fun W => rin_m4 s W
  have ez : rcyP s.toList 1 = if inL s.toList [[84, 77, 65], [83, 84, 48], [83, 84, 49], [83, 84, 50]] = true then 4 else if s.toList = [84, 65, 77] then 5 else if s.toList = [66, 82, 75] then 8 else 2 := rfl
  generalize inL s.toList [[84, 77, 65], [83, 84, 48], [83, 84, 49], [83, 84, 50]] = x1 at *
  rw [ez]
  clear ez
  have hb : Below w.heap.size w w := Below.refl _ _
  have HB := Lib.hid hb
  clear hb
  cases x1
  all_goals
    go_enter Tryd.func47, Tryd.ntmps47
    go_wp2_with (go_at_call 83; refine (h1 _).mono ?_; clear h1; rintro e w' ⟨rfl, rfl⟩)
  all_goals go_ret
  all_goals refine ⟨?_, HB.out⟩
  all_goals simp_all
set_option maxHeartbeats 8000000 in
theorem rcyc_2 (m : Int) (hm : m = 2 ∨ m = 3 ∨ m = 4) : Calls Tryd.prog 47 #[.string s, .int .u8 m] w fun e w' => e = .returned (.int .i64 (rcyP s.toList 2)) ∧ Below w.heap.size w w' := by
  have h3 := fun W => rchanges_any s W
  have ez : rcyP s.toList 2 = if s.toList.length = 4 then 7 else if rchP s.toList = true then 6 else 4 := rfl
  generalize rchP s.toList = x3 at *
  rw [ez, take_size]
  clear ez
  have hb : Below w.heap.size w w := Below.refl _ _
  have HB := Lib.hid hb
  clear hb
  rcases hm with rfl | rfl | rfl <;> cases x3
  all_goals
    go_enter Tryd.func47, Tryd.ntmps47
    go_wp2_with (go_at_call 84; refine (h3 _).mono ?_; rintro e w' ⟨rfl, rfl⟩)
  all_goals go_ret
  all_goals refine ⟨?_, HB.out⟩
  all_goals simp_all
  all_goals omega
set_option maxHeartbeats 8000000 in
theorem rcyc_5 (m : Int) (hm : m = 5 ∨ m = 6 ∨ m = 7) : Calls Tryd.prog 47 #[.string s, .int .u8 m] w fun e w' => e = .returned (.int .i64 (rcyP s.toList 5)) ∧ Below w.heap.size w w' := by
  have h3 := fun W => rchanges_any s W
  have ez : rcyP s.toList 5 = if rchP s.toList = true then 7 else if s.toList = [74, 83, 82] then 7 else if s.toList = [74, 77, 80] then 4 else 5 := rfl
  generalize rchP s.toList = x3 at *
  rw [ez]
  clear ez
  have hb : Below w.heap.size w w := Below.refl _ _
  have HB := Lib.hid hb
  clear hb
  rcases hm with rfl | rfl | rfl <;> cases x3
  all_goals
    go_enter Tryd.func47, Tryd.ntmps47
    go_wp2_with (go_at_call 84; refine (h3 _).mono ?_; rintro e w' ⟨rfl, rfl⟩)
  all_goals go_ret
  all_goals refine ⟨?_, HB.out⟩
  all_goals simp_all
set_option maxHeartbeats 8000000 in
theorem rcyc_11 : Calls Tryd.prog 47 #[.string s, .int .u8 11] w fun e w' => e = .returned (.int .i64 (rcyP s.toList 11)) ∧ Below w.heap.size w w' := by
  have ez : rcyP s.toList 11 = if s.toList = [66, 82, 65] then 4 else if s.toList = [66, 83, 82] then 8 else 2 := rfl
  rw [ez]
  clear ez
  have hb : Below w.heap.size w w := Below.refl _ _
  have HB := Lib.hid hb
  clear hb
  go_enter Tryd.func47, Tryd.ntmps47
  go_wp2
  all_goals go_ret
  all_goals refine ⟨?_, HB.out⟩
  all_goals simp_all
set_option maxHeartbeats 8000000 in
theorem rcyc_x (k : Nat) (hk : k < 20) (hx : ¬ (k = 0 ∨ k = 1 ∨ k = 2 ∨ k = 3 ∨ k = 4 ∨ k = 5 ∨ k = 6 ∨ k = 7 ∨ k = 11)) : Calls Tryd.prog 47 #[.string s, .int .u8 (k : Int)] w fun e w' => e = .returned (.int .i64 (rcyP s.toList k)) ∧ Below w.heap.size w w' := by
  have hst := fun W => run_storeCells_new (P := Tryd.prog) W 101 #[.int .i64 0, .int .i64 0, .int .i64 0, .int .i64 0, .int .i64 0, .int .i64 0, .int .i64 0, .int .i64 0, .int .i64 0, .int .i64 0, .int .i64 0, .int .i64 0, .int .i64 0, .int .i64 0, .int .i64 0, .int .i64 0, .int .i64 0, .int .i64 0, .int .i64 0, .int .i64 0] rcyC (by kernel_rfl) rfl (by kernel_rfl)
  have hB0 : Below w.heap.size w (w.alloc (.cells rcyC 101)) := (Below.refl _ w).alloc (Nat.le_refl _) _
  have hc : (w.alloc (.cells rcyC 101)).cell? ⟨w.heap.size, k, none⟩ = some (.int .i64 (rcyL.getD k 0)) := by rw [(Blk.new w 101 rcyC).cell k]; exact rcy_at k hk
  have ez : rcyP s.toList k = rcyL.getD k 0 := by
    unfold rcyP
    rw [if_neg (by omega), if_neg (by omega), if_neg (by omega), if_neg (by omega), if_neg (by omega)]
  rw [ez]
  obtain ⟨h, hh⟩ : ∃ h, rcyL.getD k 0 = h := ⟨_, rfl⟩
  rw [hh] at hc ⊢
  have e4 : (k : Int) < 20 := by omega
  have e5 : (0 : Int) ≤ k := by omega
  have n0 : ¬ (k : Int) = 0 := by omega
  have n1 : ¬ (k : Int) = 1 := by omega
  have n2 : ¬ (k : Int) = 2 := by omega
  have n3 : ¬ (k : Int) = 3 := by omega
  have n4 : ¬ (k : Int) = 4 := by omega
  have n5 : ¬ (k : Int) = 5 := by omega
  have n6 : ¬ (k : Int) = 6 := by omega
  have n7 : ¬ (k : Int) = 7 := by omega
  have n11 : ¬ (k : Int) = 11 := by omega
  have n0' : ¬ k = 0 := by omega
  have HB := Lib.hid hB0
  clear hB0 hh ez hx
  go_enter Tryd.func47, Tryd.ntmps47
  go_wp2_with (refine wpList_build rfl 101 _ rfl rcyA (by rfl) rcyC rcy_built ?_)
  go_ret
  exact ⟨rfl, HB.out⟩
end
theorem rcyc_any (s : ByteArray) (k : Nat) (hk : k < 20) (w : World) : Calls Tryd.prog 47 #[.string s, .int .u8 (k : Int)] w fun e w' => e = .returned (.int .i64 (rcyP s.toList k)) ∧ Below w.heap.size w w' := by
  by_cases h : k = 0 ∨ k = 1 ∨ k = 2 ∨ k = 3 ∨ k = 4 ∨ k = 5 ∨ k = 6 ∨ k = 7 ∨ k = 11
  · rcases h with rfl | rfl | rfl | rfl | rfl | rfl | rfl | rfl | rfl
    · exact rcyc_0 s w
    · exact rcyc_1 s w
    · exact rcyc_2 s w 2 (by simp)
    · exact rcyc_2 s w 3 (by simp)
    · exact rcyc_2 s w 4 (by simp)
    · exact rcyc_5 s w 5 (by simp)
    · exact rcyc_5 s w 6 (by simp)
    · exact rcyc_5 s w 7 (by simp)
    · exact rcyc_11 s w
  · exact rcyc_x s w k hk h
end Go.Proofs.YtleofglnlfpoeaaDoor
