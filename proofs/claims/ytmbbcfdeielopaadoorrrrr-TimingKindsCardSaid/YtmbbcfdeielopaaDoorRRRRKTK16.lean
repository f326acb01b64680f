/-
  Texts of these proofs, one behind the other: Rop6, Rop2.
-/
import Derived.Test.YtmbbcfdeielopaaDoorRRRRKTK12
import Derived.Test.YtmbbcfdeielopaaDoorRRRRKTK15
namespace Go.Proofs.YtmbbcfdeielopaaDoorRRRR
open Go.RowKit
set_option linter.unusedVariables false
set_option linter.unusedSimpArgs false
set_option maxRecDepth 100000
def rbhL : List Int := [0, 1, 1, 1, 1, 2, 2, 2, 1, 1, 1, 1, 2, 2, 2, 3, 3, 2, 2, 6]
def rcyL : List Int := [0, 0, 0, 0, 0, 0, 0, 0, 7, 7, 7, 0, 6, 7, 7, 8, 8, 7, 7, 17]
def rbhC : Array Value := #[.int .i64 0, .int .i64 1, .int .i64 1, .int .i64 1, .int .i64 1, .int .i64 2, .int .i64 2, .int .i64 2, .int .i64 1, .int .i64 1, .int .i64 1, .int .i64 1, .int .i64 2, .int .i64 2, .int .i64 2, .int .i64 3, .int .i64 3, .int .i64 2, .int .i64 2, .int .i64 6]
def rcyC : Array Value := #[.int .i64 0, .int .i64 0, .int .i64 0, .int .i64 0, .int .i64 0, .int .i64 0, .int .i64 0, .int .i64 0, .int .i64 7, .int .i64 7, .int .i64 7, .int .i64 0, .int .i64 6, .int .i64 7, .int .i64 7, .int .i64 8, .int .i64 8, .int .i64 7, .int .i64 7, .int .i64 17]
def rbhA : List (Nat × Value) := [(0, .int .i64 0), (1, .int .i64 1), (2, .int .i64 1), (3, .int .i64 1), (4, .int .i64 1), (5, .int .i64 2), (6, .int .i64 2), (7, .int .i64 2), (8, .int .i64 1), (9, .int .i64 1), (10, .int .i64 1), (11, .int .i64 1), (12, .int .i64 2), (13, .int .i64 2), (14, .int .i64 2), (15, .int .i64 3), (16, .int .i64 3), (17, .int .i64 2), (18, .int .i64 2), (19, .int .i64 6)]
def rcyA : List (Nat × Value) := [(0, .int .i64 0), (1, .int .i64 0), (2, .int .i64 0), (3, .int .i64 0), (4, .int .i64 0), (5, .int .i64 0), (6, .int .i64 0), (7, .int .i64 0), (8, .int .i64 7), (9, .int .i64 7), (10, .int .i64 7), (11, .int .i64 0), (12, .int .i64 6), (13, .int .i64 7), (14, .int .i64 7), (15, .int .i64 8), (16, .int .i64 8), (17, .int .i64 7), (18, .int .i64 7), (19, .int .i64 17)]
theorem rbh_built : Tryd.prog.built 92 rbhA = some rbhC := by kernel_rfl
theorem rcy_built : Tryd.prog.built 92 rcyA = some rcyC := by kernel_rfl
theorem rbh_fin : ∀ m : Fin 20, rbhL.getD m.val 0 = bhP (m.val : Int) := by decide +kernel
theorem rbh_at (k : Nat) (hk : k < 20) : rbhC[k]? = some (.int .i64 (rbhL.getD k 0)) := by
  show (rbhL.map (Value.int .i64)).toArray[k]? = _
  have hl : k < rbhL.length := hk
  rw [List.getElem?_toArray, List.getElem?_map, List.getD_eq_getElem?_getD, List.getElem?_eq_getElem hl]; rfl
theorem rcy_at (k : Nat) (hk : k < 20) : rcyC[k]? = some (.int .i64 (rcyL.getD k 0)) := by
  show (rcyL.map (Value.int .i64)).toArray[k]? = _
  have hl : k < rcyL.length := hk
  rw [List.getElem?_toArray, List.getElem?_map, List.getD_eq_getElem?_getD, List.getElem?_eq_getElem hl]; rfl
def zero20 : Array Value := #[.int .i64 0, .int .i64 0, .int .i64 0, .int .i64 0, .int .i64 0, .int .i64 0, .int .i64 0, .int .i64 0, .int .i64 0, .int .i64 0, .int .i64 0, .int .i64 0, .int .i64 0, .int .i64 0, .int .i64 0, .int .i64 0, .int .i64 0, .int .i64 0, .int .i64 0, .int .i64 0]
set_option maxHeartbeats 8000000 in
theorem rbehind_any (m : Nat) (hm : m < 256) (w : World) : Calls Tryd.prog 26 #[.int .u8 (m : Int)] w fun e w' => e = .returned (.int .i64 (bhP ((m % 20 : Nat) : Int))) ∧ Below w.heap.size w w' := by
  have hst := fun W => run_storeCells_new (P := Tryd.prog) W 92 #[.int .i64 0, .int .i64 0, .int .i64 0, .int .i64 0, .int .i64 0, .int .i64 0, .int .i64 0, .int .i64 0, .int .i64 0, .int .i64 0, .int .i64 0, .int .i64 0, .int .i64 0, .int .i64 0, .int .i64 0, .int .i64 0, .int .i64 0, .int .i64 0, .int .i64 0, .int .i64 0] rbhC (by kernel_rfl) rfl (by kernel_rfl)
  have hB0 : Below w.heap.size w (w.alloc (.cells rbhC 92)) := (Below.refl _ w).alloc (Nat.le_refl _) _
  obtain ⟨k, hk⟩ : ∃ k, m % 20 = k := ⟨_, rfl⟩
  have hk20 : k < 20 := by omega
  rw [hk, ← rbh_fin ⟨k, hk20⟩]
  dsimp only
  have hc : (w.alloc (.cells rbhC 92)).cell? ⟨w.heap.size, k, none⟩ = some (.int .i64 (rbhL.getD k 0)) := by rw [(Blk.new w 92 rbhC).cell k]; exact rbh_at k hk20
  obtain ⟨h, hh⟩ : ∃ h, rbhL.getD k 0 = h := ⟨_, rfl⟩
  rw [hh] at hc ⊢
  have e1 : (m : Int) % 20 = (k : Int) := by omega
  have e2 : (m : Int).tmod 20 = (k : Int) := by rw [Int.tmod_eq_emod_of_nonneg (by omega)]; exact e1
  have e3 : IntKind.u8.wrap (k : Int) = k := IntWalk.u8_in _ (by omega)
  have e4 : (k : Int) < 20 := by omega
  have e5 : (0 : Int) ≤ k := by omega
  have HB := Lib.hid hB0
  clear hB0 hk hh
  go_enter Tryd.func26, Tryd.ntmps26
  go_wp2_with (refine wpList_build rfl 92 _ rfl rbhA (by rfl) rbhC rbh_built ?_)
  go_ret
  exact ⟨rfl, HB.out⟩
def rcyP (l : List UInt8) (m : Nat) : Int :=
  if m = 0 then (if inL l [[80, 72, 65], [80, 72, 80], [80, 72, 88], [80, 72, 89], [83, 65, 88], [83, 65, 89], [83, 88, 89], [67, 83, 76], [67, 83, 72]] = true then 3 else if inL l [[80, 76, 65], [80, 76, 80], [80, 76, 88], [80, 76, 89]] = true then 4 else if inL l [[82, 84, 83], [82, 84, 73]] = true then 7 else 2)
  else if m = 1 then (if inL l [[84, 77, 65], [83, 84, 48], [83, 84, 49], [83, 84, 50]] = true then 4 else if l = [84, 65, 77] then 5 else if l = [66, 82, 75] then 8 else 2)
  else if m = 2 ∨ m = 3 ∨ m = 4 then (if l.length = 4 then 7 else if rchP l = true then 6 else 4)
  else if m = 5 ∨ m = 6 ∨ m = 7 then (if rchP l = true then 7 else if l = [74, 83, 82] then 7 else if l = [74, 77, 80] then 4 else 5)
  else if m = 11 then (if l = [66, 82, 65] then 4 else if l = [66, 83, 82] then 8 else 2) else rcyL.getD m 0
theorem rcyP_fin : ∀ b : Fin 256, rcyP (opN b.val) (opM b.val) = (opY b.val : Int) := by decide +kernel
section
variable (s : ByteArray) (w : World)
set_option maxHeartbeats 8000000 in
theorem rcyc_0 : Calls Tryd.prog 27 #[.string s, .int .u8 0] w fun e w' => e = .returned (.int .i64 (rcyP s.toList 0)) ∧ Below w.heap.size w w' := by
  have h1 := fun W => rin_i3 s W
  have h2 := fun W => rin_i4 s W
  have h3 := fun W => rin_i7 s W
  have ez : rcyP s.toList 0 = if inL s.toList [[80, 72, 65], [80, 72, 80], [80, 72, 88], [80, 72, 89], [83, 65, 88], [83, 65, 89], [83, 88, 89], [67, 83, 76], [67, 83, 72]] = true then 3 else if inL s.toList [[80, 76, 65], [80, 76, 80], [80, 76, 88], [80, 76, 89]] = true then 4 else if inL s.toList [[82, 84, 83], [82, 84, 73]] = true then 7 else 2 := rfl
  generalize inL s.toList [[80, 72, 65], [80, 72, 80], [80, 72, 88], [80, 72, 89], [83, 65, 88], [83, 65, 89], [83, 88, 89], [67, 83, 76], [67, 83, 72]] = x1 at *
  generalize inL s.toList [[80, 76, 65], [80, 76, 80], [80, 76, 88], [80, 76, 89]] = x2 at *
  generalize inL s.toList [[82, 84, 83], [82, 84, 73]] = x3 at *
  rw [ez]
  clear ez
  have hb : Below w.heap.size w w := Below.refl _ _
  cases x1 <;> cases x2 <;> cases x3
  all_goals
    go_enter Tryd.func27, Tryd.ntmps27
    go_wp2_with (first
      | (go_at_call 59; refine (h1 _).mono ?_; clear h1; rintro e w' ⟨rfl, rfl⟩)
      | (go_at_call 59; refine (h2 _).mono ?_; clear h2; rintro e w' ⟨rfl, rfl⟩)
      | (go_at_call 59; refine (h3 _).mono ?_; clear h3; rintro e w' ⟨rfl, rfl⟩))
    go_ret
    exact ⟨rfl, hb⟩
set_option maxHeartbeats 8000000 in
theorem rcyc_1 : Calls Tryd.prog 27 #[.string s, .int .u8 1] w fun e w' => e = .returned (.int .i64 (rcyP s.toList 1)) ∧ Below w.heap.size w w' := by
  have h1 := fun W => rin_m4 s W
  have ez : rcyP s.toList 1 = if inL s.toList [[84, 77, 65], [83, 84, 48], [83, 84, 49], [83, 84, 50]] = true then 4 else if s.toList = [84, 65, 77] then 5 else if s.toList = [66, 82, 75] then 8 else 2 := rfl
  generalize inL s.toList [[84, 77, 65], [83, 84, 48], [83, 84, 49], [83, 84, 50]] = x1 at *
  rw [ez]
  clear ez
  have hb : Below w.heap.size w w := Below.refl _ _
  have HB := Lib.hid hb
  clear hb
  cases x1
  all_goals
    go_enter Tryd.func27, Tryd.ntmps27
    go_wp2_with (go_at_call 59; refine (h1 _).mono ?_; clear h1; rintro e w' ⟨rfl, rfl⟩)
  all_goals go_ret
  all_goals refine ⟨?_, HB.out⟩
  all_goals simp_all
set_option maxHeartbeats 8000000 in
theorem rcyc_2 (m : Int) (hm : m = 2 ∨ m = 3 ∨ m = 4) : Calls Tryd.prog 27 #[.string s, .int .u8 m] w fun e w' => e = .returned (.int .i64 (rcyP s.toList 2)) ∧ Below w.heap.size w w' := by
  have h3 := fun W => rchanges_any s W
  have ez : rcyP s.toList 2 = if s.toList.length = 4 then 7 else if rchP s.toList = true then 6 else 4 := rfl
  generalize rchP s.toList = x3 at *
  rw [ez, take_size]
  clear ez
  have hb : Below w.heap.size w w := Below.refl _ _
  have HB := Lib.hid hb
  clear hb
  rcases hm with rfl | rfl | rfl <;> cases x3
  all_goals
    go_enter Tryd.func27, Tryd.ntmps27
    go_wp2_with (go_at_call 60; refine (h3 _).mono ?_; rintro e w' ⟨rfl, rfl⟩)
  all_goals go_ret
  all_goals refine ⟨?_, HB.out⟩
  all_goals simp_all
  all_goals omega
set_option maxHeartbeats 8000000 in
theorem rcyc_5 (m : Int) (hm : m = 5 ∨ m = 6 ∨ m = 7) : Calls Tryd.prog 27 #[.string s, .int .u8 m] w fun e w' => e = .returned (.int .i64 (rcyP s.toList 5)) ∧ Below w.heap.size w w' := by
  have h3 := fun W => rchanges_any s W
  have ez : rcyP s.toList 5 = if rchP s.toList = true then 7 else if s.toList = [74, 83, 82] then 7 else if s.toList = [74, 77, 80] then 4 else 5 := rfl
  generalize rchP s.toList = x3 at *
  rw [ez]
  clear ez
  have hb : Below w.heap.size w w := Below.refl _ _
  have HB := Lib.hid hb
  clear hb
  rcases hm with rfl | rfl | rfl <;> cases x3
  all_goals
    go_enter Tryd.func27, Tryd.ntmps27
    go_wp2_with (go_at_call 60; refine (h3 _).mono ?_; rintro e w' ⟨rfl, rfl⟩)
  all_goals go_ret
  all_goals refine ⟨?_, HB.out⟩
  all_goals simp_all
set_option maxHeartbeats 8000000 in
theorem rcyc_11 : Calls Tryd.prog 27 #[.string s, .int .u8 11] w fun e w' => e = .returned (.int .i64 (rcyP s.toList 11)) ∧ Below w.heap.size w w' := by
  have ez : rcyP s.toList 11 = if s.toList = [66, 82, 65] then 4 else if s.toList = [66, 83, 82] then 8 else 2 := rfl
  rw [ez]
  clear ez
  have hb : Below w.heap.size w w := Below.refl _ _
  have HB := Lib.hid hb
  clear hb
  go_enter Tryd.func27, Tryd.ntmps27
  go_wp2
  all_goals go_ret
  all_goals refine ⟨?_, HB.out⟩
  all_goals simp_all
set_option maxHeartbeats 8000000 in
theorem rcyc_x (k : Nat) (hk : k < 20) (hx : ¬ (k = 0 ∨ k = 1 ∨ k = 2 ∨ k = 3 ∨ k = 4 ∨ k = 5 ∨ k = 6 ∨ k = 7 ∨ k = 11)) : Calls Tryd.prog 27 #[.string s, .int .u8 (k : Int)] w fun e w' => e = .returned (.int .i64 (rcyP s.toList k)) ∧ Below w.heap.size w w' := by
  have hst := fun W => run_storeCells_new (P := Tryd.prog) W 92 #[.int .i64 0, .int .i64 0, .int .i64 0, .int .i64 0, .int .i64 0, .int .i64 0, .int .i64 0, .int .i64 0, .int .i64 0, .int .i64 0, .int .i64 0, .int .i64 0, .int .i64 0, .int .i64 0, .int .i64 0, .int .i64 0, .int .i64 0, .int .i64 0, .int .i64 0, .int .i64 0] rcyC (by kernel_rfl) rfl (by kernel_rfl)
  have hB0 : Below w.heap.size w (w.alloc (.cells rcyC 92)) := (Below.refl _ w).alloc (Nat.le_refl _) _
  have hc : (w.alloc (.cells rcyC 92)).cell? ⟨w.heap.size, k, none⟩ = some (.int .i64 (rcyL.getD k 0)) := by rw [(Blk.new w 92 rcyC).cell k]; exact rcy_at k hk
  have ez : rcyP s.toList k = rcyL.getD k 0 := by
    unfold rcyP
    rw [if_neg (by omega), if_neg (by omega), if_neg (by omega), if_neg (by omega), if_neg (by omega)]
  rw [ez]
  obtain ⟨h, hh⟩ : ∃ h, rcyL.getD k 0 = h := ⟨_, rfl⟩
  rw [hh] at hc ⊢
  have e4 : (k : Int) < 20 := by omega
  have e5 : (0 : Int) ≤ k := by omega
  have n0 : ¬ (k : Int) = 0 := by omega
  have n1 : ¬ (k : Int) = 1 := by omega
  have n2 : ¬ (k : Int) = 2 := by omega
  have n3 : ¬ (k : Int) = 3 := by omega
  have n4 : ¬ (k : Int) = 4 := by omega
  have n5 : ¬ (k : Int) = 5 := by omega
  have n6 : ¬ (k : Int) = 6 := by omega
  have n7 : ¬ (k : Int) = 7 := by omega
  have n11 : ¬ (k : Int) = 11 := by omega
  have n0' : ¬ k = 0 := by omega
  have HB := Lib.hid hB0
  clear hB0 hh ez hx
  go_enter Tryd.func27, Tryd.ntmps27
  go_wp2_with (refine wpList_build rfl 92 _ rfl rcyA (by rfl) rcyC rcy_built ?_)
  go_ret
  exact ⟨rfl, HB.out⟩
end
theorem rcyc_any (s : ByteArray) (k : Nat) (hk : k < 20) (w : World) : Calls Tryd.prog 27 #[.string s, .int .u8 (k : Int)] w fun e w' => e = .returned (.int .i64 (rcyP s.toList k)) ∧ Below w.heap.size w w' := by
  by_cases h : k = 0 ∨ k = 1 ∨ k = 2 ∨ k = 3 ∨ k = 4 ∨ k = 5 ∨ k = 6 ∨ k = 7 ∨ k = 11
  · rcases h with rfl | rfl | rfl | rfl | rfl | rfl | rfl | rfl | rfl
    · exact rcyc_0 s w
    · exact rcyc_1 s w
    · exact rcyc_2 s w 2 (by simp)
    · exact rcyc_2 s w 3 (by simp)
    · exact rcyc_2 s w 4 (by simp)
    · exact rcyc_5 s w 5 (by simp)
    · exact rcyc_5 s w 6 (by simp)
    · exact rcyc_5 s w 7 (by simp)
    · exact rcyc_11 s w
  · exact rcyc_x s w k hk h
end Go.Proofs.YtmbbcfdeielopaaDoorRRRR
namespace Go.Proofs.YtmbbcfdeielopaaDoorRRRR
open Go.RowKit
set_option linter.unusedVariables false
set_option linter.unusedSimpArgs false
set_option maxRecDepth 100000
/-- The letters of a byte's name, none of one that does nothing. -/
def rnL (b : Nat) : List UInt8 := if opK b then opN b else []
def rcV (b : Nat) : Value := .tuple #[.string (mkS (rnL b)), .string (mkS ((opC b).drop 4))]
theorem lt16 {r : Nat} (h : r < 16) : r = 0 ∨ r = 1 ∨ r = 2 ∨ r = 3 ∨ r = 4 ∨ r = 5 ∨ r = 6 ∨ r = 7 ∨ r = 8 ∨ r = 9 ∨ r = 10 ∨ r = 11 ∨ r = 12 ∨ r = 13 ∨ r = 14 ∨ r = 15 := by omega
theorem idx_agg {T : TypeId} {n : Nat} {e : TypeId} (ht : Tryd.prog.underlying T = some (.array n e)) (hc : flat Tryd.prog e = true) (vs : Array Value) (r : Nat) (hr : r < n) (v : Value) (hv : vs[r]? = some v) (w : World) : (Instr.index T (.agg vs) (.int .i64 (r : Int))).run Tryd.prog w = .ok v w :=
  run_index_agg ht hc (by omega) (by omega) (by rw [Int.toNat_natCast]; exact hv) w
set_option maxHeartbeats 8000000 in
theorem rcolumn0_any (r : Nat) (hr : r < 16) (w : World) : Calls Tryd.prog 55 #[.int .i64 (r : Int)] w fun e w' => e = .returned (rcV (16 * r + 0)) ∧ w = w' := by
  obtain ⟨N, hN⟩ : ∃ N, mkS (rnL (16 * r + 0)) = N := ⟨_, rfl⟩
  obtain ⟨L, hL⟩ : ∃ L, mkS ((opC (16 * r + 0)).drop 4) = L := ⟨_, rfl⟩
  have hi : ∀ W : World, (Instr.index 91 (.agg #[.string ⟨#[66, 82, 75]⟩, .string ⟨#[66, 80, 76]⟩, .string ⟨#[74, 83, 82]⟩, .string ⟨#[66, 77, 73]⟩, .string ⟨#[82, 84, 73]⟩, .string ⟨#[66, 86, 67]⟩, .string ⟨#[82, 84, 83]⟩, .string ⟨#[66, 86, 83]⟩, .string ⟨#[66, 82, 65]⟩, .string ⟨#[66, 67, 67]⟩, .string ⟨#[76, 68, 89]⟩, .string ⟨#[66, 67, 83]⟩, .string ⟨#[67, 80, 89]⟩, .string ⟨#[66, 78, 69]⟩, .string ⟨#[67, 80, 88]⟩, .string ⟨#[66, 69, 81]⟩]) (.int .i64 (r : Int))).run Tryd.prog W = .ok (.string N) W := fun W => idx_agg Tryd.underlying91 (by kernel_rfl) _ r hr _ (by rw [← hN]; rcases lt16 hr with rfl | rfl | rfl | rfl | rfl | rfl | rfl | rfl | rfl | rfl | rfl | rfl | rfl | rfl | rfl | rfl <;> kernel_rfl) W
  unfold rcV
  rw [hN, hL]
  have hK : L = if (r : Int) = 0 ∨ (r : Int) = 10 ∨ (r : Int) = 12 ∨ (r : Int) = 14 then ⟨#[35, 35]⟩ else if (r : Int) = 2 then ⟨#[97, 98]⟩ else if (r : Int) = 4 ∨ (r : Int) = 6 then ⟨#[46, 46]⟩ else ⟨#[114, 101]⟩ := by
    rw [← hL]; clear hL hi; rcases lt16 hr with rfl | rfl | rfl | rfl | rfl | rfl | rfl | rfl | rfl | rfl | rfl | rfl | rfl | rfl | rfl | rfl <;> kernel_rfl
  have HK := Lib.hid hK
  clear hK
  clear hN hL
  go_enter Tryd.func55, Tryd.ntmps55
  go_wp2
  all_goals go_ret2
  all_goals refine ⟨?_, rfl⟩
  all_goals rw [HK.out]
  all_goals simp_all
set_option maxHeartbeats 8000000 in
theorem rcolumn3_any (r : Nat) (hr : r < 16) (w : World) : Calls Tryd.prog 56 #[.int .i64 (r : Int)] w fun e w' => e = .returned (rcV (16 * r + 3)) ∧ w = w' := by
  obtain ⟨N, hN⟩ : ∃ N, mkS (rnL (16 * r + 3)) = N := ⟨_, rfl⟩
  obtain ⟨L, hL⟩ : ∃ L, mkS ((opC (16 * r + 3)).drop 4) = L := ⟨_, rfl⟩
  have hi : ∀ W : World, (Instr.index 91 (.agg #[.string ⟨#[83, 84, 48]⟩, .string ⟨#[83, 84, 49]⟩, .string ⟨#[83, 84, 50]⟩, .string ⟨#[]⟩, .string ⟨#[84, 77, 65]⟩, .string ⟨#[84, 65, 77]⟩, .string ⟨#[]⟩, .string ⟨#[84, 73, 73]⟩, .string ⟨#[84, 83, 84]⟩, .string ⟨#[84, 83, 84]⟩, .string ⟨#[84, 83, 84]⟩, .string ⟨#[84, 83, 84]⟩, .string ⟨#[84, 68, 68]⟩, .string ⟨#[84, 73, 78]⟩, .string ⟨#[84, 73, 65]⟩, .string ⟨#[84, 65, 73]⟩]) (.int .i64 (r : Int))).run Tryd.prog W = .ok (.string N) W := fun W => idx_agg Tryd.underlying91 (by kernel_rfl) _ r hr _ (by rw [← hN]; rcases lt16 hr with rfl | rfl | rfl | rfl | rfl | rfl | rfl | rfl | rfl | rfl | rfl | rfl | rfl | rfl | rfl | rfl <;> kernel_rfl) W
  have hj : ∀ W : World, (Instr.index 91 (.agg #[.string ⟨#[35, 35]⟩, .string ⟨#[35, 35]⟩, .string ⟨#[35, 35]⟩, .string ⟨#[46, 46]⟩, .string ⟨#[35, 35]⟩, .string ⟨#[35, 35]⟩, .string ⟨#[46, 46]⟩, .string ⟨#[98, 108]⟩, .string ⟨#[116, 122]⟩, .string ⟨#[116, 97]⟩, .string ⟨#[116, 120]⟩, .string ⟨#[116, 121]⟩, .string ⟨#[98, 108]⟩, .string ⟨#[98, 108]⟩, .string ⟨#[98, 108]⟩, .string ⟨#[98, 108]⟩]) (.int .i64 (r : Int))).run Tryd.prog W = .ok (.string L) W := fun W => idx_agg Tryd.underlying91 (by kernel_rfl) _ r hr _ (by rw [← hL]; rcases lt16 hr with rfl | rfl | rfl | rfl | rfl | rfl | rfl | rfl | rfl | rfl | rfl | rfl | rfl | rfl | rfl | rfl <;> kernel_rfl) W
  unfold rcV
  rw [hN, hL]
  clear hN hL
  go_enter Tryd.func56, Tryd.ntmps56
  go_wp2
  go_ret2
  exact ⟨rfl, rfl⟩
set_option maxHeartbeats 8000000 in
theorem rcolumn4_any (r : Nat) (hr : r < 16) (w : World) : Calls Tryd.prog 57 #[.int .i64 (r : Int)] w fun e w' => e = .returned (rcV (16 * r + 4)) ∧ w = w' := by
  obtain ⟨N, hN⟩ : ∃ N, mkS (rnL (16 * r + 4)) = N := ⟨_, rfl⟩
  obtain ⟨L, hL⟩ : ∃ L, mkS ((opC (16 * r + 4)).drop 4) = L := ⟨_, rfl⟩
  have hi : ∀ W : World, (Instr.index 91 (.agg #[.string ⟨#[84, 83, 66]⟩, .string ⟨#[84, 82, 66]⟩, .string ⟨#[66, 73, 84]⟩, .string ⟨#[66, 73, 84]⟩, .string ⟨#[66, 83, 82]⟩, .string ⟨#[67, 83, 76]⟩, .string ⟨#[83, 84, 90]⟩, .string ⟨#[83, 84, 90]⟩, .string ⟨#[83, 84, 89]⟩, .string ⟨#[83, 84, 89]⟩, .string ⟨#[76, 68, 89]⟩, .string ⟨#[76, 68, 89]⟩, .string ⟨#[67, 80, 89]⟩, .string ⟨#[67, 83, 72]⟩, .string ⟨#[67, 80, 88]⟩, .string ⟨#[83, 69, 84]⟩]) (.int .i64 (r : Int))).run Tryd.prog W = .ok (.string N) W := fun W => idx_agg Tryd.underlying91 (by kernel_rfl) _ r hr _ (by rw [← hN]; rcases lt16 hr with rfl | rfl | rfl | rfl | rfl | rfl | rfl | rfl | rfl | rfl | rfl | rfl | rfl | rfl | rfl | rfl <;> kernel_rfl) W
  have hj : ∀ W : World, (Instr.index 91 (.agg #[.string ⟨#[122, 112]⟩, .string ⟨#[122, 112]⟩, .string ⟨#[122, 112]⟩, .string ⟨#[122, 120]⟩, .string ⟨#[114, 101]⟩, .string ⟨#[46, 46]⟩, .string ⟨#[122, 112]⟩, .string ⟨#[122, 120]⟩, .string ⟨#[122, 112]⟩, .string ⟨#[122, 120]⟩, .string ⟨#[122, 112]⟩, .string ⟨#[122, 120]⟩, .string ⟨#[122, 112]⟩, .string ⟨#[46, 46]⟩, .string ⟨#[122, 112]⟩, .string ⟨#[46, 46]⟩]) (.int .i64 (r : Int))).run Tryd.prog W = .ok (.string L) W := fun W => idx_agg Tryd.underlying91 (by kernel_rfl) _ r hr _ (by rw [← hL]; rcases lt16 hr with rfl | rfl | rfl | rfl | rfl | rfl | rfl | rfl | rfl | rfl | rfl | rfl | rfl | rfl | rfl | rfl <;> kernel_rfl) W
  unfold rcV
  rw [hN, hL]
  clear hN hL
  go_enter Tryd.func57, Tryd.ntmps57
  go_wp2
  go_ret2
  exact ⟨rfl, rfl⟩
set_option maxHeartbeats 8000000 in
theorem rcolumn12_any (r : Nat) (hr : r < 16) (w : World) : Calls Tryd.prog 58 #[.int .i64 (r : Int)] w fun e w' => e = .returned (rcV (16 * r + 12)) ∧ w = w' := by
  obtain ⟨N, hN⟩ : ∃ N, mkS (rnL (16 * r + 12)) = N := ⟨_, rfl⟩
  obtain ⟨L, hL⟩ : ∃ L, mkS ((opC (16 * r + 12)).drop 4) = L := ⟨_, rfl⟩
  have hi : ∀ W : World, (Instr.index 91 (.agg #[.string ⟨#[84, 83, 66]⟩, .string ⟨#[84, 82, 66]⟩, .string ⟨#[66, 73, 84]⟩, .string ⟨#[66, 73, 84]⟩, .string ⟨#[74, 77, 80]⟩, .string ⟨#[]⟩, .string ⟨#[74, 77, 80]⟩, .string ⟨#[74, 77, 80]⟩, .string ⟨#[83, 84, 89]⟩, .string ⟨#[83, 84, 90]⟩, .string ⟨#[76, 68, 89]⟩, .string ⟨#[76, 68, 89]⟩, .string ⟨#[67, 80, 89]⟩, .string ⟨#[]⟩, .string ⟨#[67, 80, 88]⟩, .string ⟨#[]⟩]) (.int .i64 (r : Int))).run Tryd.prog W = .ok (.string N) W := fun W => idx_agg Tryd.underlying91 (by kernel_rfl) _ r hr _ (by rw [← hN]; rcases lt16 hr with rfl | rfl | rfl | rfl | rfl | rfl | rfl | rfl | rfl | rfl | rfl | rfl | rfl | rfl | rfl | rfl <;> kernel_rfl) W
  have hj : ∀ W : World, (Instr.index 91 (.agg #[.string ⟨#[97, 98]⟩, .string ⟨#[97, 98]⟩, .string ⟨#[97, 98]⟩, .string ⟨#[97, 120]⟩, .string ⟨#[97, 98]⟩, .string ⟨#[46, 46]⟩, .string ⟨#[106, 105]⟩, .string ⟨#[106, 120]⟩, .string ⟨#[97, 98]⟩, .string ⟨#[97, 98]⟩, .string ⟨#[97, 98]⟩, .string ⟨#[97, 120]⟩, .string ⟨#[97, 98]⟩, .string ⟨#[46, 46]⟩, .string ⟨#[97, 98]⟩, .string ⟨#[46, 46]⟩]) (.int .i64 (r : Int))).run Tryd.prog W = .ok (.string L) W := fun W => idx_agg Tryd.underlying91 (by kernel_rfl) _ r hr _ (by rw [← hL]; rcases lt16 hr with rfl | rfl | rfl | rfl | rfl | rfl | rfl | rfl | rfl | rfl | rfl | rfl | rfl | rfl | rfl | rfl <;> kernel_rfl) W
  unfold rcV
  rw [hN, hL]
  clear hN hL
  go_enter Tryd.func58, Tryd.ntmps58
  go_wp2
  go_ret2
  exact ⟨rfl, rfl⟩
end Go.Proofs.YtmbbcfdeielopaaDoorRRRR
