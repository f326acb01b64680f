/-
  Texts of these proofs, one behind the other: Tm1, Rop1.
-/
import Derived.Test.YtmbbcfdeielopaaDoorRRRRKTK11
import Derived.Test.YtmbbcfdeielopaaDoorRRRRKTK06
import Derived.Test.YtmbbcfdeielopaaDoorRRRRKTK03
namespace Go.Proofs.YtmbbcfdeielopaaDoorRRRR
open Go.RowKit
set_option linter.unusedVariables false
set_option linter.unusedSimpArgs false
set_option maxRecDepth 100000
theorem lt20 {k : Nat} (h : k < 20) : k = 0 ∨ k = 1 ∨ k = 2 ∨ k = 3 ∨ k = 4 ∨ k = 5 ∨ k = 6 ∨ k = 7 ∨ k = 8 ∨ k = 9 ∨ k = 10 ∨ k = 11 ∨ k = 12 ∨ k = 13 ∨ k = 14 ∨ k = 15 ∨ k = 16 ∨ k = 17 ∨ k = 18 ∨ k = 19 := by omega
set_option maxHeartbeats 8000000 in
theorem tfound_any (m : Nat) (hm : m < 20) (w : World) : Calls Tryd.prog 44 #[.int .u8 (m : Int)] w fun e w' => e = .returned (.string (mkS (tmFound m))) ∧ w = w' := by
  rcases lt20 hm with rfl | rfl | rfl | rfl | rfl | rfl | rfl | rfl | rfl | rfl | rfl | rfl | rfl | rfl | rfl | rfl | rfl | rfl | rfl | rfl
  all_goals go_enter Tryd.func44, Tryd.ntmps44
  all_goals go_wp2
  all_goals go_ret
  all_goals exact ⟨rfl, rfl⟩
set_option maxHeartbeats 8000000 in
theorem timplied_any (T : ByteArray) (w : World) : Calls Tryd.prog 40 #[.string T] w fun e w' => e = .returned (.string (mkS (tmImp T.toList))) ∧ w = w' := by
  go_enter Tryd.func40, Tryd.ntmps40
  go_wp2
  all_goals go_ret
  all_goals refine ⟨?_, rfl⟩
  all_goals simp_all [tmImp, mkS]
set_option maxHeartbeats 8000000 in
theorem timmediate_any (T : ByteArray) (w : World) : Calls Tryd.prog 41 #[.string T] w fun e w' => e = .returned (.string (mkS (tmImm T.toList))) ∧ w = w' := by
  go_enter Tryd.func41, Tryd.ntmps41
  go_wp2
  all_goals go_ret
  all_goals refine ⟨?_, rfl⟩
  all_goals simp_all [tmImm, mkS]
set_option maxHeartbeats 8000000 in
theorem tdone_any (T : ByteArray) (hz : 3 ≤ T.size) (w : World) : Calls Tryd.prog 45 #[.string T] w fun e w' => e = .returned (.string (mkS (tmDone (T.toList.take 3)))) ∧ w = w' := by
  have hx : (T.extract 0 3).toList = T.toList.take 3 := by rw [ext_toList, List.drop_zero, Nat.sub_zero]
  obtain ⟨U, hU⟩ : ∃ U, T.extract 0 3 = U := ⟨_, rfl⟩
  rw [← hx, hU]
  clear hx
  go_enter Tryd.func45, Tryd.ntmps45
  go_wp2
  all_goals go_ret
  all_goals refine ⟨?_, rfl⟩
  all_goals simp_all [tmDone, mkS]
end Go.Proofs.YtmbbcfdeielopaaDoorRRRR
namespace Go.Proofs.YtmbbcfdeielopaaDoorRRRR
open Go.RowKit
set_option linter.unusedVariables false
set_option linter.unusedSimpArgs false
set_option maxRecDepth 100000
theorem rpick_any (i : Bool) (a b : ByteArray) (w : World) : Calls Tryd.prog 53 #[.bool i, .string a, .string b] w fun e w' => e = .returned (.string (if i = true then a else b)) ∧ w' = w := by
  cases i with
  | true =>
    go_enter Tryd.func53, Tryd.ntmps53
    go_wp2
    go_ret
    exact ⟨rfl, rfl⟩
  | false =>
    go_enter Tryd.func53, Tryd.ntmps53
    go_wp2
    go_ret
    exact ⟨rfl, rfl⟩
def inL (l : List UInt8) (cs : List (List UInt8)) : Bool := cs.any (· == l)
theorem inL_none {l : List UInt8} {cs : List (List UInt8)} (h : ∀ k, k < cs.length → (cs.getD k [] == l) = false) : inL l cs = false := by
  unfold inL
  rw [List.any_eq_false]
  intro x hx
  obtain ⟨k, hk, rfl⟩ := List.getElem_of_mem hx
  have := h k hk
  rw [List.getD_eq_getElem?_getD, List.getElem?_eq_getElem hk] at this
  simpa using this
theorem inL_yes {l : List UInt8} {cs : List (List UInt8)} {k : Nat} (hk : k < cs.length) (h : (cs.getD k [] == l) = true) : inL l cs = true := by
  unfold inL
  rw [List.any_eq_true]
  rw [List.getD_eq_getElem?_getD, List.getElem?_eq_getElem hk] at h
  exact ⟨_, List.getElem_mem hk, h⟩
set_option maxHeartbeats 4000000 in
theorem rin_any (s S : ByteArray) (cs : List (List UInt8)) (n : Nat) (hn : cs.length = n) (n0 : n ≤ 100) (hS : S.size + 1 = 4 * n) (hc : ∀ k, k < n → S.extract (4 * k) (4 * k + 3) = mkS (cs.getD k [])) (w : World) :
    Calls Tryd.prog 59 #[.string s, .string S] w fun e w' => e = .returned (.bool (inL s.toList cs)) ∧ w = w' := by
  have HY := Lib.hid (fun (k : Nat) => @inL_yes s.toList cs k)
  have HN := Lib.hid (@inL_none s.toList cs)
  rw [hn] at HY HN
  obtain ⟨R, hR⟩ : ∃ R, inL s.toList cs = R := ⟨_, rfl⟩
  rw [hR] at HY HN ⊢
  have HC := Lib.hid hc
  clear hc hR hn
  go_enter Tryd.func59, Tryd.ntmps59
  go_wp2
  go_loopw [5] (fun i wr => ∃ k : Nat, k ≤ n ∧ i = .int .i64 (4 * (k : Int)) ∧ w = wr ∧ ∀ j, j < k → (cs.getD j [] == s.toList) = false) (fun i _ => 4 * n - (intOf i).toNat)
  case atStart => exact ⟨0, by omega, rfl, rfl, fun j h => by omega⟩
  case round =>
    obtain ⟨k, hk, rfl, rfl, hp⟩ := hrel
    have HP := Lib.hid hp
    clear hp
    rcases Nat.lt_or_ge k n with hl | hl
    · have hx := HC.out k hl
      obtain ⟨X, hX⟩ : ∃ X, mkS (cs.getD k []) = X := ⟨_, rfl⟩
      have hXl : X.toList = cs.getD k [] := by rw [← hX, mkS_toList]
      rw [hX] at hx
      clear hX
      have k0 : (0 : Int) ≤ 4 * (k : Int) := by omega
      have k1 : 4 * (k : Int) + 3 ≤ S.size := by omega
      have k2 : (4 * (k : Int)).toNat = 4 * k := by omega
      have k3 : (4 * (k : Int) + 3).toNat = 4 * k + 3 := by omega
      have k4 : IntKind.i64.wrap (4 * (k : Int) + 3) = 4 * k + 3 := IntWalk.i64_in _ (by omega)
      have k5 : IntKind.i64.wrap (4 * (k : Int) + 4) = 4 * k + 4 := IntWalk.i64_in _ (by omega)
      have HXL := Lib.hid hXl
      clear hXl
      obtain ⟨z, hz⟩ : ∃ z, (X.toList == s.toList) = z := ⟨_, rfl⟩
      have HZ := Lib.hid hz
      cases z with
      | true =>
        obtain rfl : R = true := HY.out k hl (by rw [← HXL.out]; exact HZ.out)
        go_wp2
        go_ret
        exact ⟨rfl, rfl⟩
      | false =>
        go_wp2
        go_roundw
        case rel => exact ⟨k + 1, by omega, by first | rfl | (congr 1; omega), by trivial, fun j hj => (Nat.lt_succ_iff_lt_or_eq.1 hj).elim (HP.out j) fun e => by subst e; rw [← HXL.out]; exact HZ.out⟩
        case measure => simp [intOf]; omega
    · obtain rfl : k = n := by omega
      have k1 : ¬ 4 * (k : Int) + 3 ≤ S.size := by omega
      have k4 : IntKind.i64.wrap (4 * (k : Int) + 3) = 4 * k + 3 := IntWalk.i64_in _ (by omega)
      obtain rfl : R = false := HN.out HP.out
      go_wp2
      go_ret
      exact ⟨rfl, rfl⟩
theorem cut3 (cs : List (List UInt8)) (S : List UInt8) (h : (List.range cs.length).all (fun k => (S.drop (4 * k)).take 3 == cs.getD k []) = true) : ∀ k, k < cs.length → (mkS S).extract (4 * k) (4 * k + 3) = mkS (cs.getD k []) := fun k hk => by
  rw [List.all_eq_true] at h
  have := h k (by simpa using hk)
  rw [mkS_ext, show 4 * k + 3 - 4 * k = 3 by omega]
  rw [beq_iff_eq] at this
  rw [this]
theorem rin_i3 (s : ByteArray) (w : World) : Calls Tryd.prog 59 #[.string s, .string ⟨#[80, 72, 65, 32, 80, 72, 80, 32, 80, 72, 88, 32, 80, 72, 89, 32, 83, 65, 88, 32, 83, 65, 89, 32, 83, 88, 89, 32, 67, 83, 76, 32, 67, 83, 72]⟩] w fun e w' => e = .returned (.bool (inL s.toList [[80, 72, 65], [80, 72, 80], [80, 72, 88], [80, 72, 89], [83, 65, 88], [83, 65, 89], [83, 88, 89], [67, 83, 76], [67, 83, 72]])) ∧ w = w' :=
  rin_any s (mkS [80, 72, 65, 32, 80, 72, 80, 32, 80, 72, 88, 32, 80, 72, 89, 32, 83, 65, 88, 32, 83, 65, 89, 32, 83, 88, 89, 32, 67, 83, 76, 32, 67, 83, 72]) [[80, 72, 65], [80, 72, 80], [80, 72, 88], [80, 72, 89], [83, 65, 88], [83, 65, 89], [83, 88, 89], [67, 83, 76], [67, 83, 72]] 9 rfl (by decide) (by rw [mkS_size]; rfl) (cut3 [[80, 72, 65], [80, 72, 80], [80, 72, 88], [80, 72, 89], [83, 65, 88], [83, 65, 89], [83, 88, 89], [67, 83, 76], [67, 83, 72]] [80, 72, 65, 32, 80, 72, 80, 32, 80, 72, 88, 32, 80, 72, 89, 32, 83, 65, 88, 32, 83, 65, 89, 32, 83, 88, 89, 32, 67, 83, 76, 32, 67, 83, 72] (by decide +kernel)) w
theorem rin_i4 (s : ByteArray) (w : World) : Calls Tryd.prog 59 #[.string s, .string ⟨#[80, 76, 65, 32, 80, 76, 80, 32, 80, 76, 88, 32, 80, 76, 89]⟩] w fun e w' => e = .returned (.bool (inL s.toList [[80, 76, 65], [80, 76, 80], [80, 76, 88], [80, 76, 89]])) ∧ w = w' :=
  rin_any s (mkS [80, 76, 65, 32, 80, 76, 80, 32, 80, 76, 88, 32, 80, 76, 89]) [[80, 76, 65], [80, 76, 80], [80, 76, 88], [80, 76, 89]] 4 rfl (by decide) (by rw [mkS_size]; rfl) (cut3 [[80, 76, 65], [80, 76, 80], [80, 76, 88], [80, 76, 89]] [80, 76, 65, 32, 80, 76, 80, 32, 80, 76, 88, 32, 80, 76, 89] (by decide +kernel)) w
theorem rin_i7 (s : ByteArray) (w : World) : Calls Tryd.prog 59 #[.string s, .string ⟨#[82, 84, 83, 32, 82, 84, 73]⟩] w fun e w' => e = .returned (.bool (inL s.toList [[82, 84, 83], [82, 84, 73]])) ∧ w = w' :=
  rin_any s (mkS [82, 84, 83, 32, 82, 84, 73]) [[82, 84, 83], [82, 84, 73]] 2 rfl (by decide) (by rw [mkS_size]; rfl) (cut3 [[82, 84, 83], [82, 84, 73]] [82, 84, 83, 32, 82, 84, 73] (by decide +kernel)) w
theorem rin_m4 (s : ByteArray) (w : World) : Calls Tryd.prog 59 #[.string s, .string ⟨#[84, 77, 65, 32, 83, 84, 48, 32, 83, 84, 49, 32, 83, 84, 50]⟩] w fun e w' => e = .returned (.bool (inL s.toList [[84, 77, 65], [83, 84, 48], [83, 84, 49], [83, 84, 50]])) ∧ w = w' :=
  rin_any s (mkS [84, 77, 65, 32, 83, 84, 48, 32, 83, 84, 49, 32, 83, 84, 50]) [[84, 77, 65], [83, 84, 48], [83, 84, 49], [83, 84, 50]] 4 rfl (by decide) (by rw [mkS_size]; rfl) (cut3 [[84, 77, 65], [83, 84, 48], [83, 84, 49], [83, 84, 50]] [84, 77, 65, 32, 83, 84, 48, 32, 83, 84, 49, 32, 83, 84, 50] (by decide +kernel)) w
theorem rin_ch (s : ByteArray) (w : World) : Calls Tryd.prog 59 #[.string s, .string ⟨#[65, 83, 76, 32, 76, 83, 82, 32, 82, 79, 76, 32, 82, 79, 82, 32, 73, 78, 67, 32, 68, 69, 67, 32, 84, 83, 66, 32, 84, 82, 66]⟩] w fun e w' => e = .returned (.bool (inL s.toList [[65, 83, 76], [76, 83, 82], [82, 79, 76], [82, 79, 82], [73, 78, 67], [68, 69, 67], [84, 83, 66], [84, 82, 66]])) ∧ w = w' :=
  rin_any s (mkS [65, 83, 76, 32, 76, 83, 82, 32, 82, 79, 76, 32, 82, 79, 82, 32, 73, 78, 67, 32, 68, 69, 67, 32, 84, 83, 66, 32, 84, 82, 66]) [[65, 83, 76], [76, 83, 82], [82, 79, 76], [82, 79, 82], [73, 78, 67], [68, 69, 67], [84, 83, 66], [84, 82, 66]] 8 rfl (by decide) (by rw [mkS_size]; rfl) (cut3 [[65, 83, 76], [76, 83, 82], [82, 79, 76], [82, 79, 82], [73, 78, 67], [68, 69, 67], [84, 83, 66], [84, 82, 66]] [65, 83, 76, 32, 76, 83, 82, 32, 82, 79, 76, 32, 82, 79, 82, 32, 73, 78, 67, 32, 68, 69, 67, 32, 84, 83, 66, 32, 84, 82, 66] (by decide +kernel)) w
def rchP (l : List UInt8) : Bool := inL l [[65, 83, 76], [76, 83, 82], [82, 79, 76], [82, 79, 82], [73, 78, 67], [68, 69, 67], [84, 83, 66], [84, 82, 66]]
theorem rchanges_any (s : ByteArray) (w : World) : Calls Tryd.prog 60 #[.string s] w fun e w' => e = .returned (.bool (rchP s.toList)) ∧ w = w' := by
  go_enter Tryd.func60, Tryd.ntmps60
  go_wp2_with fail
  refine (rin_ch _ _).mono ?_
  rintro e w' ⟨rfl, rfl⟩
  go_wp2
  go_ret
  exact ⟨rfl, rfl⟩
theorem opCut_fin : ∀ b : Fin 256, ∀ k : Fin 20, k.val ≤ opM b.val → ((opMarks.drop (2 * k.val)).take 2 == (opC b.val).drop 4) = decide (k.val = opM b.val) := by decide +kernel
set_option maxHeartbeats 4000000 in
theorem rmode_any (b : Nat) (hb : b < 256) (w : World) : Calls Tryd.prog 25 #[.string (mkS ((opC b).drop 4))] w fun e w' => e = .returned (.int .u8 (opM b : Int)) ∧ w = w' := by
  have hm := opM_fin ⟨b, hb⟩
  have hf := opCut_fin ⟨b, hb⟩
  dsimp only at hm hf
  obtain ⟨m, hM⟩ : ∃ m, opM b = m := ⟨_, rfl⟩
  obtain ⟨D, hD⟩ : ∃ D, mkS ((opC b).drop 4) = D := ⟨_, rfl⟩
  rw [show (opC b).drop 4 = D.toList by rw [← hD, mkS_toList]] at hf
  rw [hM] at hm hf ⊢
  rw [hD]
  clear hD hM
  have HF := Lib.hid hf
  clear hf
  go_enter Tryd.func25, Tryd.ntmps25
  go_wp2
  go_loopw [4] (fun i wr => ∃ k : Nat, k ≤ m ∧ i = .int .i64 k ∧ w = wr) (fun i _ => 20 - (intOf i).toNat)
  case atStart => exact ⟨0, by omega, rfl, rfl⟩
  case round =>
    obtain ⟨k, hk, rfl, rfl⟩ := hrel
    have hp := HF.out ⟨k, by omega⟩ hk
    dsimp only at hp
    obtain ⟨X, hX⟩ : ∃ X, mkS ((opMarks.drop (2 * k)).take 2) = X := ⟨_, rfl⟩
    have hx : (⟨#[46, 46, 35, 35, 122, 112, 122, 120, 122, 121, 97, 98, 97, 120, 97, 121, 105, 110, 105, 120, 105, 121, 114, 101, 122, 114, 116, 122, 116, 120, 116, 97, 116, 121, 106, 105, 106, 120, 98, 108]⟩ : ByteArray).extract (2 * k) (2 * k + 2) = X := by
      show (mkS opMarks).extract (2 * k) (2 * k + 2) = X
      rw [mkS_ext, ← hX, show 2 * k + 2 - 2 * k = 2 by omega]
    rw [show (opMarks.drop (2 * k)).take 2 = X.toList by rw [← hX, mkS_toList]] at hp
    clear hX
    have k0 : (0 : Int) ≤ 2 * (k : Int) := by omega
    have k1 : 2 * (k : Int) + 2 ≤ 40 := by omega
    have k2 : (2 * (k : Int)).toNat = 2 * k := by omega
    have k6 : (2 * (k : Int) + 2).toNat = 2 * k + 2 := by omega
    have k3 : IntKind.i64.wrap (2 * (k : Int)) = 2 * k := IntWalk.i64_in _ (by omega)
    have k4 : IntKind.i64.wrap (2 * (k : Int) + 2) = 2 * k + 2 := IntWalk.i64_in _ (by omega)
    have k5 : (k : Int) < 20 := by omega
    rcases Nat.lt_or_ge k m with hl | hl
    · rw [show decide (k = m) = false by simp; omega] at hp
      go_wp2
      go_roundw
      case rel => exact ⟨k + 1, by omega, by go_num, by trivial⟩
      case measure => simp [intOf]; omega
    · obtain rfl : k = m := by omega
      rw [show decide (k = k) = true from decide_eq_true rfl] at hp
      have k7 : IntKind.u8.wrap (k : Int) = k := IntWalk.u8_in _ (by omega)
      go_wp2
      go_ret
      exact ⟨rfl, rfl⟩
end Go.Proofs.YtmbbcfdeielopaaDoorRRRR
