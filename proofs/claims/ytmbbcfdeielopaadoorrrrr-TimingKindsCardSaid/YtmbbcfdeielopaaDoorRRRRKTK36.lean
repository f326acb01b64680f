/-
  Texts of these proofs, one behind the other: Rop7, Rtm1, Rtm2.
-/
import Derived.Test.YtmbbcfdeielopaaDoorRRRRKTK33
import Derived.Test.YtmbbcfdeielopaaDoorRRRRKTK16
import Derived.Test.YtmbbcfdeielopaaDoorRRRRKTK11
import Derived.Deep.Cut
namespace Go.Proofs.YtmbbcfdeielopaaDoorRRRR
open Go.RowKit
set_option linter.unusedVariables false
set_option linter.unusedSimpArgs false
set_option maxRecDepth 100000
theorem rcell_any (b : Nat) (hb : b < 256) (w : World) : Calls Tryd.prog 24 #[.int .u8 (b : Int)] w fun e w' => e = .returned (rcV b) ∧ Below w.heap.size w w' := by
  obtain ⟨u, o, c, hu, ho, hc, rfl⟩ : ∃ u o c : Nat, u < 8 ∧ o < 2 ∧ c < 16 ∧ b = 16 * (2 * u + o) + c := ⟨b / 32, b / 16 % 2, b % 16, by omega, by omega, by omega, by omega⟩
  have ho : o = 0 ∨ o = 1 := by omega
  rcases lt16 hc with rfl | rfl | rfl | rfl | rfl | rfl | rfl | rfl | rfl | rfl | rfl | rfl | rfl | rfl | rfl | rfl <;> rcases ho with rfl | rfl
  · exact rcell_0_0 u hu w
  · exact rcell_0_1 u hu w
  · exact rcell_1_0 u hu w
  · exact rcell_1_1 u hu w
  · exact rcell_2_0 u hu w
  · exact rcell_2_1 u hu w
  · exact rcell_3_0 u hu w
  · exact rcell_3_1 u hu w
  · exact rcell_4_0 u hu w
  · exact rcell_4_1 u hu w
  · exact rcell_5_0 u hu w
  · exact rcell_5_1 u hu w
  · exact rcell_6_0 u hu w
  · exact rcell_6_1 u hu w
  · exact rcell_7_0 u hu w
  · exact rcell_7_1 u hu w
  · exact rcell_8_0 u hu w
  · exact rcell_8_1 u hu w
  · exact rcell_9_0 u hu w
  · exact rcell_9_1 u hu w
  · exact rcell_10_0 u hu w
  · exact rcell_10_1 u hu w
  · exact rcell_11_0 u hu w
  · exact rcell_11_1 u hu w
  · exact rcell_12_0 u hu w
  · exact rcell_12_1 u hu w
  · exact rcell_13_0 u hu w
  · exact rcell_13_1 u hu w
  · exact rcell_14_0 u hu w
  · exact rcell_14_1 u hu w
  · exact rcell_15_0 u hu w
  · exact rcell_15_1 u hu w

def rV (b : Nat) : Value := .agg #[.string (mkS (opN b)), .int .u8 (opM b : Int), .int .i64 (opZ b), .int .i64 (opY b : Int), .bool (opK b)]
theorem rof_fin : ∀ b : Fin 256, (opK b.val = false → opN b.val = [78, 79, 80] ∧ opM b.val = 0 ∧ opY b.val = 2) ∧ (opK b.val = true → rnL b.val = opN b.val ∧ opN b.val ≠ []) ∧ rcyP (opN b.val) (opM b.val) = (opY b.val : Int) ∧ opM b.val < 20 := by decide +kernel
set_option maxHeartbeats 4000000 in
theorem rof_any (b : Nat) (hb : b < 256) (w : World) : Calls Tryd.prog 8 #[.int .u8 (b : Int)] w fun e w' => e = .returned (rV b) ∧ Below w.heap.size w w' := by
  obtain ⟨f1, f2, f3, f4⟩ := rof_fin ⟨b, hb⟩
  dsimp only at f1 f2 f3 f4
  have hC := fun W => rcell_any b hb W
  have hM := fun W => rmode_any b hb W
  have hBh := fun W => rbehind_any (opM b) (by omega) W
  have hY := fun W => rcyc_any (mkS (opN b)) (opM b) f4 W
  rw [mkS_toList, f3] at hY
  rw [Nat.mod_eq_of_lt f4] at hBh
  have hbd := bhP_bd (opM b : Int)
  have hz : opZ b = 1 + bhP (opM b : Int) := rfl
  unfold rcV at hC
  unfold rV
  obtain ⟨K, hK⟩ : ∃ K, opK b = K := ⟨_, rfl⟩
  obtain ⟨X, hX⟩ : ∃ X, mkS ((opC b).drop 4) = X := ⟨_, rfl⟩
  rw [hX] at hC hM
  cases K with
  | false =>
    obtain ⟨e1, e2, e3⟩ := f1 hK
    have e4 : mkS (rnL b) = ⟨#[]⟩ := by unfold rnL; rw [hK]; rfl
    rw [hK, e1, hz, e2, e3, show (1 : Int) + bhP ((0 : Nat) : Int) = 1 by decide, show mkS [78, 79, 80] = ⟨#[78, 79, 80]⟩ from rfl]
    rw [e4] at hC
    rw [e2] at hM
    have HB0 := Lib.hid (Below.refl w.heap.size w)
    clear f1 f2 f3 f4 hY hBh hbd hz hK hX e1 e2 e3 e4
    go_enter Tryd.func8, Tryd.ntmps8
    go_wp2_with fail
    obtain ⟨g, hg⟩ : ∃ g, w.heap.size = g := ⟨_, rfl⟩
    have hX0 : Blk (w.alloc (.cells #[.string ⟨#[]⟩, .int .u8 0, .int .i64 0, .int .i64 0, .bool false] 28)) g 28 #[.string ⟨#[]⟩, .int .u8 0, .int .i64 0, .int .i64 0, .bool false] := by rw [← hg]; exact Blk.new_ rfl
    have hB0 : Below g w (w.alloc (.cells #[.string ⟨#[]⟩, .int .u8 0, .int .i64 0, .int .i64 0, .bool false] 28)) := by rw [← hg]; exact (Below.refl _ w).alloc (Nat.le_refl _) _
    simp only [hg]
    generalize World.alloc _ _ = w1 at *
    refine (hC _).mono ?_
    rintro e w2 ⟨rfl, b2⟩
    have hX2 := hX0.below b2 hX0.lt
    have hB2 : Below g w w2 := hB0.trans (b2.mono (Nat.le_of_lt hX0.lt))
    have HG := Lib.hid hg
    clear hC hX0 hB0 b2 hg
    have c0 : w2.cell? ⟨g, 0, none⟩ = some (.string ⟨#[]⟩) := hX2.cell 0
    have f0 : w2.frozen? ⟨g, 0, none⟩ = false := hX2.frozen 0
    have c1 : w2.cell? ⟨g, 1, none⟩ = some (.int .u8 0) := hX2.cell 1
    have f1 : w2.frozen? ⟨g, 1, none⟩ = false := hX2.frozen 1
    have c2 : w2.cell? ⟨g, 2, none⟩ = some (.int .i64 0) := hX2.cell 2
    have f2 : w2.frozen? ⟨g, 2, none⟩ = false := hX2.frozen 2
    have c3 : w2.cell? ⟨g, 3, none⟩ = some (.int .i64 0) := hX2.cell 3
    have f3 : w2.frozen? ⟨g, 3, none⟩ = false := hX2.frozen 3
    have c4 : w2.cell? ⟨g, 4, none⟩ = some (.bool false) := hX2.cell 4
    have f4 : w2.frozen? ⟨g, 4, none⟩ = false := hX2.frozen 4
    have HX := Lib.hid hX2
    have HB := Lib.hid hB2
    clear hX2 hB2 HB0
    go_wp2_with (go_at_call 25; refine (hM _).mono ?_; rintro e w' ⟨rfl, rfl⟩)
    refine bodyPost_ret (v := .agg #[.string ⟨#[78, 79, 80]⟩, .int .u8 0, .int .i64 1, .int .i64 2, .bool false]) (results_cell (a := ⟨g, 0, none⟩) Tryd.results8 (by rfl) ((((((HX.out.set_ 0 (.string ⟨#[78, 79, 80]⟩)).set_ 1 (.int .u8 0)).set_ 2 (.int .i64 1)).set_ 3 (.int .i64 2)).set_ 4 (.bool false)).run_load (P := Tryd.prog) Tryd.underlying28 rfl (by kernel_rfl))) rfl ?_
    exact ⟨rfl, by rw [HG.out]; exact ((((HB.out.setCell (p := ⟨g, 0, none⟩) (Nat.le_refl _) _).setCell (p := ⟨g, 1, none⟩) (Nat.le_refl _) _).setCell (p := ⟨g, 2, none⟩) (Nat.le_refl _) _).setCell (p := ⟨g, 3, none⟩) (Nat.le_refl _) _).setCell (p := ⟨g, 4, none⟩) (Nat.le_refl _) _⟩
  | true =>
    obtain ⟨e1, e2⟩ := f2 hK
    rw [e1] at hC
    rw [hK, hz]
    have e3 : ¬ (mkS (opN b)).toList = [] := by rw [mkS_toList]; exact e2
    have e4 : (mkS (opN b)).toList.isEmpty = false := by rw [mkS_toList]; cases h : opN b with | nil => exact absurd h e2 | cons a b => rfl
    obtain ⟨S, hS⟩ : ∃ S, mkS (opN b) = S := ⟨_, rfl⟩
    obtain ⟨m, hm⟩ : ∃ m : Int, (opM b : Int) = m := ⟨_, rfl⟩
    obtain ⟨y, hy⟩ : ∃ y : Int, (opY b : Int) = y := ⟨_, rfl⟩
    rw [hm] at hM hBh hY hbd ⊢
    rw [hy] at hY ⊢
    rw [hS] at hC hY e3 e4 ⊢
    obtain ⟨h, hh⟩ : ∃ h : Int, bhP m = h := ⟨_, rfl⟩
    rw [hh] at hBh hbd ⊢
    have hw : IntKind.i64.wrap (1 + h) = 1 + h := IntWalk.i64_in _ (by omega)
    clear f1 f2 f3 f4 hbd hz hK hX e1 e2 hS hm hy hh
    go_enter Tryd.func8, Tryd.ntmps8
    go_wp2_with fail
    obtain ⟨g, hg⟩ : ∃ g, w.heap.size = g := ⟨_, rfl⟩
    have hX0 : Blk (w.alloc (.cells #[.string ⟨#[]⟩, .int .u8 0, .int .i64 0, .int .i64 0, .bool false] 28)) g 28 #[.string ⟨#[]⟩, .int .u8 0, .int .i64 0, .int .i64 0, .bool false] := by rw [← hg]; exact Blk.new_ rfl
    have hB0 : Below g w (w.alloc (.cells #[.string ⟨#[]⟩, .int .u8 0, .int .i64 0, .int .i64 0, .bool false] 28)) := by rw [← hg]; exact (Below.refl _ w).alloc (Nat.le_refl _) _
    simp only [hg]
    generalize World.alloc _ _ = w1 at *
    refine (hC _).mono ?_
    rintro e w2 ⟨rfl, b2⟩
    have hX2 := hX0.below b2 hX0.lt
    have hB2 : Below g w w2 := hB0.trans (b2.mono (Nat.le_of_lt hX0.lt))
    have HG := Lib.hid hg
    clear hC hX0 hB0 b2 hg
    go_wp2_with fail
    refine (hM _).mono ?_
    rintro e w' ⟨rfl, rfl⟩
    go_wp2_with fail
    refine (hBh _).mono ?_
    rintro e w3 ⟨rfl, b3⟩
    have hX3 := hX2.below b3 hX2.lt
    have hB3 : Below g w w3 := hB2.trans (b3.mono (Nat.le_of_lt hX2.lt))
    clear hBh hX2 hB2 b3
    go_wp2_with fail
    refine (hY _).mono ?_
    rintro e w4 ⟨rfl, b4⟩
    have hX4 := hX3.below b4 hX3.lt
    have hB4 : Below g w w4 := hB3.trans (b4.mono (Nat.le_of_lt hX3.lt))
    clear hY hX3 hB3 b4
    have c0 : w4.cell? ⟨g, 0, none⟩ = some (.string ⟨#[]⟩) := hX4.cell 0
    have f0 : w4.frozen? ⟨g, 0, none⟩ = false := hX4.frozen 0
    have c1 : w4.cell? ⟨g, 1, none⟩ = some (.int .u8 0) := hX4.cell 1
    have f1 : w4.frozen? ⟨g, 1, none⟩ = false := hX4.frozen 1
    have c2 : w4.cell? ⟨g, 2, none⟩ = some (.int .i64 0) := hX4.cell 2
    have f2 : w4.frozen? ⟨g, 2, none⟩ = false := hX4.frozen 2
    have c3 : w4.cell? ⟨g, 3, none⟩ = some (.int .i64 0) := hX4.cell 3
    have f3 : w4.frozen? ⟨g, 3, none⟩ = false := hX4.frozen 3
    have c4 : w4.cell? ⟨g, 4, none⟩ = some (.bool false) := hX4.cell 4
    have f4 : w4.frozen? ⟨g, 4, none⟩ = false := hX4.frozen 4
    have HX := Lib.hid hX4
    have HB := Lib.hid hB4
    clear hX4 hB4
    go_wp2
    refine bodyPost_ret (v := .agg #[.string S, .int .u8 m, .int .i64 (1 + h), .int .i64 y, .bool true]) (results_cell (a := ⟨g, 0, none⟩) Tryd.results8 (by rfl) ((((((HX.out.set_ 0 (.string S)).set_ 1 (.int .u8 m)).set_ 2 (.int .i64 (1 + h))).set_ 3 (.int .i64 y)).set_ 4 (.bool true)).run_load (P := Tryd.prog) Tryd.underlying28 rfl (by kernel_rfl))) rfl ?_
    exact ⟨rfl, by rw [HG.out]; exact ((((HB.out.setCell (p := ⟨g, 0, none⟩) (Nat.le_refl _) _).setCell (p := ⟨g, 1, none⟩) (Nat.le_refl _) _).setCell (p := ⟨g, 2, none⟩) (Nat.le_refl _) _).setCell (p := ⟨g, 3, none⟩) (Nat.le_refl _) _).setCell (p := ⟨g, 4, none⟩) (Nat.le_refl _) _⟩
end Go.Proofs.YtmbbcfdeielopaaDoorRRRR
namespace Go.Proofs.YtmbbcfdeielopaaDoorRRRR
open Go.RowKit
set_option linter.unusedVariables false
set_option linter.unusedSimpArgs false
set_option maxRecDepth 100000
set_option maxHeartbeats 4000000 in
theorem rin29_any (s S : ByteArray) (cs : List (List UInt8)) (n : Nat) (hn : cs.length = n) (n0 : n ≤ 100) (hS : S.size + 1 = 4 * n) (hc : ∀ k, k < n → S.extract (4 * k) (4 * k + 3) = mkS (cs.getD k [])) (w : World) :
    Calls Tryd.prog 29 #[.string s, .string S] w fun e w' => e = .returned (.bool (inL s.toList cs)) ∧ w = w' := by
  have HY := Lib.hid (fun (k : Nat) => @inL_yes s.toList cs k)
  have HN := Lib.hid (@inL_none s.toList cs)
  rw [hn] at HY HN
  obtain ⟨R, hR⟩ : ∃ R, inL s.toList cs = R := ⟨_, rfl⟩
  rw [hR] at HY HN ⊢
  have HC := Lib.hid hc
  clear hc hR hn
  go_enter Tryd.func29, Tryd.ntmps29
  go_wp2
  go_loopw [5] (fun i wr => ∃ k : Nat, k ≤ n ∧ i = .int .i64 (4 * (k : Int)) ∧ w = wr ∧ ∀ j, j < k → (cs.getD j [] == s.toList) = false) (fun i _ => 4 * n - (intOf i).toNat)
  case atStart => exact ⟨0, by omega, rfl, rfl, fun j h => by omega⟩
  case round =>
    obtain ⟨k, hk, rfl, rfl, hp⟩ := hrel
    have HP := Lib.hid hp
    clear hp
    rcases Nat.lt_or_ge k n with hl | hl
    · have hx := HC.out k hl
      obtain ⟨X, hX⟩ : ∃ X, mkS (cs.getD k []) = X := ⟨_, rfl⟩
      have hXl : X.toList = cs.getD k [] := by rw [← hX, mkS_toList]
      rw [hX] at hx
      clear hX
      have k0 : (0 : Int) ≤ 4 * (k : Int) := by omega
      have k1 : 4 * (k : Int) + 3 ≤ S.size := by omega
      have k2 : (4 * (k : Int)).toNat = 4 * k := by omega
      have k3 : (4 * (k : Int) + 3).toNat = 4 * k + 3 := by omega
      have k4 : IntKind.i64.wrap (4 * (k : Int) + 3) = 4 * k + 3 := IntWalk.i64_in _ (by omega)
      have k5 : IntKind.i64.wrap (4 * (k : Int) + 4) = 4 * k + 4 := IntWalk.i64_in _ (by omega)
      have HXL := Lib.hid hXl
      clear hXl
      obtain ⟨z, hz⟩ : ∃ z, (X.toList == s.toList) = z := ⟨_, rfl⟩
      have HZ := Lib.hid hz
      cases z with
      | true =>
        obtain rfl : R = true := HY.out k hl (by rw [← HXL.out]; exact HZ.out)
        go_wp2
        go_ret
        exact ⟨rfl, rfl⟩
      | false =>
        go_wp2
        go_roundw
        case rel => exact ⟨k + 1, by omega, by first | rfl | (congr 1; omega), by trivial, fun j hj => (Nat.lt_succ_iff_lt_or_eq.1 hj).elim (HP.out j) fun e => by subst e; rw [← HXL.out]; exact HZ.out⟩
        case measure => simp [intOf]; omega
    · obtain rfl : k = n := by omega
      have k1 : ¬ 4 * (k : Int) + 3 ≤ S.size := by omega
      have k4 : IntKind.i64.wrap (4 * (k : Int) + 3) = 4 * k + 3 := IntWalk.i64_in _ (by omega)
      obtain rfl : R = false := HN.out HP.out
      go_wp2
      go_ret
      exact ⟨rfl, rfl⟩
def rwyL (m : Nat) : List UInt8 := if 8 ≤ m ∧ m ≤ 10 then [68, 76, 76, 68] else [68]
theorem rways_any (m : Nat) (w : World) : Calls Tryd.prog 61 #[.int .u8 (m : Int)] w fun e w' => e = .returned (.string (mkS (rwyL m))) ∧ w = w' := by
  by_cases h1 : 8 ≤ m
  · have h1' : (8 : Int) ≤ m := by omega
    by_cases h2 : m ≤ 10
    · have h2' : (m : Int) ≤ 10 := by omega
      rw [show rwyL m = [68, 76, 76, 68] from if_pos ⟨h1, h2⟩]
      clear h1 h2
      go_enter Tryd.func61, Tryd.ntmps61
      go_wp2
      go_ret
      exact ⟨rfl, rfl⟩
    · have h2' : ¬ (m : Int) ≤ 10 := by omega
      rw [show rwyL m = [68] from if_neg (by omega)]
      clear h1 h2
      go_enter Tryd.func61, Tryd.ntmps61
      go_wp2
      go_ret
      exact ⟨rfl, rfl⟩
  · have h1' : ¬ (8 : Int) ≤ m := by omega
    rw [show rwyL m = [68] from if_neg (by omega)]
    clear h1
    go_enter Tryd.func61, Tryd.ntmps61
    go_wp2
    go_ret
    exact ⟨rfl, rfl⟩
end Go.Proofs.YtmbbcfdeielopaaDoorRRRR
namespace Go.Proofs.YtmbbcfdeielopaaDoorRRRR
open Go.RowKit
set_option linter.unusedVariables false
set_option linter.unusedSimpArgs false
set_option maxRecDepth 100000
set_option maxHeartbeats 8000000
theorem rch_or (t : List UInt8) : (t == [65, 83, 76] || t == [76, 83, 82] || t == [82, 79, 76] || t == [82, 79, 82] || t == [73, 78, 67] || t == [68, 69, 67] || t == [84, 83, 66] || t == [84, 82, 66]) = rchP t := by
  unfold rchP inL
  simp only [List.any_cons, List.any_nil, Bool.or_false, BEq.comm (a := t), Bool.or_assoc]
def hdL (z : Nat) : List UInt8 := [70] ++ List.replicate (z - 1) 79
theorem hdL_succ (j : Nat) (hj : 1 ≤ j) : mkS (hdL (j + 1)) = mkS (hdL j) ++ ⟨#[79]⟩ := by
  show _ = mkS (hdL j) ++ mkS [79]
  rw [← mkS_app]
  unfold hdL
  obtain ⟨i, rfl⟩ : ∃ i, j = i + 1 := ⟨j - 1, by omega⟩
  simp [List.replicate_succ']
theorem rp_fin : ∀ b : Fin 256, 1 ≤ opZ b.val ∧ opZ b.val ≤ 7 ∧ opY b.val ≤ 17 ∧ 2 ≤ opY b.val ∧ (opN b.val).length ≤ 4 ∧ opM b.val < 20 := by decide +kernel
theorem rplain_any (b : Nat) (hb : b < 256) (w : World) : Calls Tryd.prog 28 #[.int .u8 (b : Int)] w fun e w' => e = .returned (.string (mkS (rtmP (opN b) (opM b) (opY b : Int) (opZ b)))) ∧ Below w.heap.size w w' := by
  obtain ⟨p1, p2, p3, p4, p5, p6⟩ := rp_fin ⟨b, hb⟩
  dsimp only at p1 p2 p3 p4 p5 p6
  have hO := fun W => rof_any b hb W
  unfold rV at hO
  obtain ⟨S, hS⟩ : ∃ S, mkS (opN b) = S := ⟨_, rfl⟩
  have hSt : S.toList = opN b := by rw [← hS, mkS_toList]
  have hSz : S.size ≤ 4 := by rw [← hS, mkS_size]; exact p5
  rw [hS] at hO
  rw [← hSt]
  obtain ⟨m, hm⟩ : ∃ m, opM b = m := ⟨_, rfl⟩
  obtain ⟨k, hk⟩ : ∃ k, opK b = k := ⟨_, rfl⟩
  obtain ⟨y, hy⟩ : ∃ y, opY b = y := ⟨_, rfl⟩
  obtain ⟨z, hz⟩ : ∃ z : Nat, opZ b = (z : Int) := ⟨(opZ b).toNat, by omega⟩
  rw [hm, hk, hy, hz] at hO
  rw [hm, hy, hz]
  rw [hm] at p6
  rw [hy] at p3 p4
  rw [hz] at p1 p2
  have hz1 : 1 ≤ z := by omega
  have hz7 : z ≤ 7 := by omega
  have hwy := fun W => rways_any m W
  have hch := fun W => rchanges_any S W
  obtain ⟨C, hC⟩ : ∃ C, rchP S.toList = C := ⟨_, rfl⟩
  obtain ⟨V, hV⟩ : ∃ V, mkS (rwyL m) = V := ⟨_, rfl⟩
  have hVz : V.size ≤ 4 := by rw [← hV, mkS_size]; unfold rwyL; split <;> decide
  rw [hC] at hch
  rw [hV] at hwy
  have HC := Lib.hid hC
  have HV := Lib.hid hV
  clear hS hSt p5 hm hk hy hz p1 p2 hb hC hV
  go_enter Tryd.func28, Tryd.ntmps28
  go_wp2_with fail
  refine (hO _).mono ?_
  rintro e w1 ⟨rfl, hb1⟩
  have K : Hid (Blk (w1.alloc (.cells #[.string S, .int .u8 (m : Int), .int .i64 (z : Int), .int .i64 (y : Int), .bool k] 28)) w1.heap.size 28 #[.string S, .int .u8 (m : Int), .int .i64 (z : Int), .int .i64 (y : Int), .bool k]) := Lib.hid (Blk.new _ _ _)
  have HB : Hid (Below w.heap.size w (w1.alloc (.cells #[.string S, .int .u8 (m : Int), .int .i64 (z : Int), .int .i64 (y : Int), .bool k] 28))) := Lib.hid (hb1.alloc hb1.size _)
  obtain ⟨w2, hw2⟩ : ∃ w2, w1.alloc (.cells #[.string S, .int .u8 (m : Int), .int .i64 (z : Int), .int .i64 (y : Int), .bool k] 28) = w2 := ⟨_, rfl⟩
  rw [hw2] at K HB
  have HW2 := Lib.hid hw2
  clear hb1 hO hw2
  go_upto_region 2 with fail
  rw [HW2.out]
  obtain ⟨g, hg⟩ : ∃ g, w1.heap.size = g := ⟨_, rfl⟩
  rw [hg] at K
  have HG := Lib.hid hg
  have c0 : w2.cell? ⟨g, 0, none⟩ = some (.string S) := K.out.cell 0
  have c1 : w2.cell? ⟨g, 1, none⟩ = some (.int .u8 (m : Int)) := K.out.cell 1
  have c2 : w2.cell? ⟨g, 2, none⟩ = some (.int .i64 (z : Int)) := K.out.cell 2
  have c3 : w2.cell? ⟨g, 3, none⟩ = some (.int .i64 (y : Int)) := K.out.cell 3
  go_wp2_with fail
  go_loop [4, 5] (fun h i => ∃ j : Nat, 1 ≤ j ∧ j ≤ z ∧ i = .int .i64 j ∧ h = .string (mkS (hdL j))) (fun _ i => z - (intOf i).toNat)
  case atStart => exact ⟨1, by omega, by omega, rfl, rfl⟩
  case round =>
    obtain ⟨j, hj1, hj2, rfl, rfl⟩ := hrel
    have hs := hdL_succ j hj1
    have hsz : (mkS (hdL j)).size ≤ 7 := by rw [mkS_size]; unfold hdL; simp; omega
    obtain ⟨H, hH⟩ : ∃ H, mkS (hdL j) = H := ⟨_, rfl⟩
    rw [hH] at hs hsz ⊢
    by_cases hlt : j < z
    · have HS := Lib.hid hs
      clear hs hH
      go_wp2_with fail
      go_round
      case rel => exact ⟨j + 1, by omega, by omega, by go_num, by rw [HS.out]⟩
      case measure => simp [intOf]; omega
    · obtain rfl : j = z := by omega
      have HH := Lib.hid hH
      have hwr : IntKind.i64.wrap ((y : Int) - (j : Int)) = (y : Int) - (j : Int) := IntWalk.i64_in _ (by omega)
      clear hs hH
      have q0 : (j : Int) - 1 = ((j - 1 : Nat) : Int) := by omega
      have hhd : hdL j = [70] ++ List.replicate ((j : Int) - 1).toNat 79 := by unfold hdL; congr 2; omega
      have HD := Lib.hid hhd
      clear q0 hhd
      by_cases m19 : m = 19
      · have HE : Hid (rtmP S.toList m (y : Int) (j : Int) = [70, 80, 80, 80, 79, 79, 79, 79, 79, 79, 68, 68, 85, 85, 85, 68, 68]) := Lib.hid (by unfold rtmP; simp [m19])
        have e19 : ((m : Int) == 19) = true := by simp; omega
        clear m19
        go_wp2_with fail
        go_ret
        exact ⟨by rw [HE.out]; rfl, HB.out⟩
      · have e19 : ((m : Int) == 19) = false := by simp; omega
        have M19 := Lib.hid m19
        clear m19
        cases t0 : (S.toList == [80, 72, 65]) with
        | true =>
          have HE : Hid (rtmP S.toList m (y : Int) (j : Int) = [70, 68, 80]) := Lib.hid (by unfold rtmP; rw [if_neg M19.out]; simp [t0])
          go_wp2_with fail
          go_ret
          exact ⟨by rw [HE.out]; rfl, HB.out⟩
        | false =>
          cases t1 : (S.toList == [80, 72, 80]) with
          | true =>
            have HE : Hid (rtmP S.toList m (y : Int) (j : Int) = [70, 68, 80]) := Lib.hid (by unfold rtmP; rw [if_neg M19.out]; simp [t0, t1])
            go_wp2_with fail
            go_ret
            exact ⟨by rw [HE.out]; rfl, HB.out⟩
          | false =>
            cases t2 : (S.toList == [80, 72, 88]) with
            | true =>
              have HE : Hid (rtmP S.toList m (y : Int) (j : Int) = [70, 68, 80]) := Lib.hid (by unfold rtmP; rw [if_neg M19.out]; simp [t0, t1, t2])
              go_wp2_with fail
              go_ret
              exact ⟨by rw [HE.out]; rfl, HB.out⟩
            | false =>
              cases t3 : (S.toList == [80, 72, 89]) with
              | true =>
                have HE : Hid (rtmP S.toList m (y : Int) (j : Int) = [70, 68, 80]) := Lib.hid (by unfold rtmP; rw [if_neg M19.out]; simp [t0, t1, t2, t3])
                go_wp2_with fail
                go_ret
                exact ⟨by rw [HE.out]; rfl, HB.out⟩
              | false =>
                cases t4 : (S.toList == [80, 76, 65]) with
                | true =>
                  have HE : Hid (rtmP S.toList m (y : Int) (j : Int) = [70, 68, 68, 85]) := Lib.hid (by unfold rtmP; rw [if_neg M19.out]; simp [t0, t1, t2, t3, t4])
                  go_wp2_with fail
                  go_ret
                  exact ⟨by rw [HE.out]; rfl, HB.out⟩
                | false =>
                  cases t5 : (S.toList == [80, 76, 80]) with
                  | true =>
                    have HE : Hid (rtmP S.toList m (y : Int) (j : Int) = [70, 68, 68, 85]) := Lib.hid (by unfold rtmP; rw [if_neg M19.out]; simp [t0, t1, t2, t3, t4, t5])
                    go_wp2_with fail
                    go_ret
                    exact ⟨by rw [HE.out]; rfl, HB.out⟩
                  | false =>
                    cases t6 : (S.toList == [80, 76, 88]) with
                    | true =>
                      have HE : Hid (rtmP S.toList m (y : Int) (j : Int) = [70, 68, 68, 85]) := Lib.hid (by unfold rtmP; rw [if_neg M19.out]; simp [t0, t1, t2, t3, t4, t5, t6])
                      go_wp2_with fail
                      go_ret
                      exact ⟨by rw [HE.out]; rfl, HB.out⟩
                    | false =>
                      cases t7 : (S.toList == [80, 76, 89]) with
                      | true =>
                        have HE : Hid (rtmP S.toList m (y : Int) (j : Int) = [70, 68, 68, 85]) := Lib.hid (by unfold rtmP; rw [if_neg M19.out]; simp [t0, t1, t2, t3, t4, t5, t6, t7])
                        go_wp2_with fail
                        go_ret
                        exact ⟨by rw [HE.out]; rfl, HB.out⟩
                      | false =>
                        cases t8 : (S.toList == [82, 84, 83]) with
                        | true =>
                          have HE : Hid (rtmP S.toList m (y : Int) (j : Int) = [70, 68, 68, 85, 85, 68, 68]) := Lib.hid (by unfold rtmP; rw [if_neg M19.out]; simp [t0, t1, t2, t3, t4, t5, t6, t7, t8])
                          go_wp2_with fail
                          go_ret
                          exact ⟨by rw [HE.out]; rfl, HB.out⟩
                        | false =>
                          cases t9 : (S.toList == [82, 84, 73]) with
                          | true =>
                            have HE : Hid (rtmP S.toList m (y : Int) (j : Int) = [70, 68, 68, 85, 85, 85, 68]) := Lib.hid (by unfold rtmP; rw [if_neg M19.out]; simp [t0, t1, t2, t3, t4, t5, t6, t7, t8, t9])
                            go_wp2_with fail
                            go_ret
                            exact ⟨by rw [HE.out]; rfl, HB.out⟩
                          | false =>
                            cases t10 : (S.toList == [66, 82, 75]) with
                            | true =>
                              have HE : Hid (rtmP S.toList m (y : Int) (j : Int) = [70, 79, 80, 80, 80, 86, 86, 68]) := Lib.hid (by unfold rtmP; rw [if_neg M19.out]; simp [t0, t1, t2, t3, t4, t5, t6, t7, t8, t9, t10])
                              go_wp2_with fail
                              go_ret
                              exact ⟨by rw [HE.out]; rfl, HB.out⟩
                            | false =>
                              cases t11 : (S.toList == [66, 83, 82]) with
                              | true =>
                                have HE : Hid (rtmP S.toList m (y : Int) (j : Int) = [70, 79, 68, 80, 80, 68, 68, 68]) := Lib.hid (by unfold rtmP; rw [if_neg M19.out]; simp [t0, t1, t2, t3, t4, t5, t6, t7, t8, t9, t10, t11])
                                go_wp2_with fail
                                go_ret
                                exact ⟨by rw [HE.out]; rfl, HB.out⟩
                              | false =>
                                cases t12 : (S.toList == [74, 83, 82]) with
                                | true =>
                                  have HE : Hid (rtmP S.toList m (y : Int) (j : Int) = [70, 79, 79, 68, 80, 80, 68]) := Lib.hid (by unfold rtmP; rw [if_neg M19.out]; simp [t0, t1, t2, t3, t4, t5, t6, t7, t8, t9, t10, t11, t12])
                                  go_wp2_with fail
                                  go_ret
                                  exact ⟨by rw [HE.out]; rfl, HB.out⟩
                                | false =>
                                  cases t13 : (S.toList == [74, 77, 80]) with
                                  | true =>
                                    by_cases m5 : m = 5
                                    · have e5 : ((m : Int) == 5) = true := by simp; omega
                                      have HE : Hid (rtmP S.toList m (y : Int) (j : Int) = [70, 79, 79, 68]) := Lib.hid (by unfold rtmP; rw [if_neg M19.out]; simp [t0, t1, t2, t3, t4, t5, t6, t7, t8, t9, t10, t11, t12, t13, m5])
                                      clear m5
                                      go_wp2_with fail
                                      go_ret
                                      exact ⟨by rw [HE.out]; rfl, HB.out⟩
                                    · have e5 : ((m : Int) == 5) = false := by simp; omega
                                      have HE : Hid (rtmP S.toList m (y : Int) (j : Int) = [70, 79, 79, 68, 76, 76, 68]) := Lib.hid (by unfold rtmP; rw [if_neg M19.out]; simp [t0, t1, t2, t3, t4, t5, t6, t7, t8, t9, t10, t11, t12, t13, m5])
                                      clear m5
                                      go_wp2_with fail
                                      go_ret
                                      exact ⟨by rw [HE.out]; rfl, HB.out⟩
                                  | false =>
                                    cases t14 : (S.toList == [83, 84, 65]) with
                                    | true =>
                                      have HE : Hid (mkS (rtmP S.toList m (y : Int) (j : Int)) = H ++ V ++ ⟨#[83]⟩) := Lib.hid (by
                                        have e : rtmP S.toList m (y : Int) (j : Int) = hdL j ++ rwyL m ++ [83] := by unfold rtmP; rw [if_neg M19.out, HD.out]; simp [t0, t1, t2, t3, t4, t5, t6, t7, t8, t9, t10, t11, t12, t13, t14, rwyL, HD.out]
                                        rw [e]; simp only [mkS_app, HH.out, HV.out]; rfl)
                                      go_wp2_with (go_at_call 61; refine (hwy _).mono ?_; rintro e w' ⟨rfl, rfl⟩)
                                      go_ret
                                      exact ⟨by rw [HE.out]; rfl, HB.out⟩
                                    | false =>
                                      cases t15 : (S.toList == [83, 84, 88]) with
                                      | true =>
                                        have HE : Hid (mkS (rtmP S.toList m (y : Int) (j : Int)) = H ++ V ++ ⟨#[83]⟩) := Lib.hid (by
                                          have e : rtmP S.toList m (y : Int) (j : Int) = hdL j ++ rwyL m ++ [83] := by unfold rtmP; rw [if_neg M19.out, HD.out]; simp [t0, t1, t2, t3, t4, t5, t6, t7, t8, t9, t10, t11, t12, t13, t14, t15, rwyL, HD.out]
                                          rw [e]; simp only [mkS_app, HH.out, HV.out]; rfl)
                                        go_wp2_with (go_at_call 61; refine (hwy _).mono ?_; rintro e w' ⟨rfl, rfl⟩)
                                        go_ret
                                        exact ⟨by rw [HE.out]; rfl, HB.out⟩
                                      | false =>
                                        cases t16 : (S.toList == [83, 84, 89]) with
                                        | true =>
                                          have HE : Hid (mkS (rtmP S.toList m (y : Int) (j : Int)) = H ++ V ++ ⟨#[83]⟩) := Lib.hid (by
                                            have e : rtmP S.toList m (y : Int) (j : Int) = hdL j ++ rwyL m ++ [83] := by unfold rtmP; rw [if_neg M19.out, HD.out]; simp [t0, t1, t2, t3, t4, t5, t6, t7, t8, t9, t10, t11, t12, t13, t14, t15, t16, rwyL, HD.out]
                                            rw [e]; simp only [mkS_app, HH.out, HV.out]; rfl)
                                          go_wp2_with (go_at_call 61; refine (hwy _).mono ?_; rintro e w' ⟨rfl, rfl⟩)
                                          go_ret
                                          exact ⟨by rw [HE.out]; rfl, HB.out⟩
                                        | false =>
                                          cases t17 : (S.toList == [83, 84, 90]) with
                                          | true =>
                                            have HE : Hid (mkS (rtmP S.toList m (y : Int) (j : Int)) = H ++ V ++ ⟨#[83]⟩) := Lib.hid (by
                                              have e : rtmP S.toList m (y : Int) (j : Int) = hdL j ++ rwyL m ++ [83] := by unfold rtmP; rw [if_neg M19.out, HD.out]; simp [t0, t1, t2, t3, t4, t5, t6, t7, t8, t9, t10, t11, t12, t13, t14, t15, t16, t17, rwyL, HD.out]
                                              rw [e]; simp only [mkS_app, HH.out, HV.out]; rfl)
                                            go_wp2_with (go_at_call 61; refine (hwy _).mono ?_; rintro e w' ⟨rfl, rfl⟩)
                                            go_ret
                                            exact ⟨by rw [HE.out]; rfl, HB.out⟩
                                          | false =>
                                            cases t18 : (S.toList == [83, 84, 48]) with
                                            | true =>
                                              have HE : Hid (rtmP S.toList m (y : Int) (j : Int) = [70, 79, 68, 83]) := Lib.hid (by unfold rtmP; rw [if_neg M19.out]; simp [t0, t1, t2, t3, t4, t5, t6, t7, t8, t9, t10, t11, t12, t13, t14, t15, t16, t17, t18])
                                              go_wp2_with fail
                                              go_ret
                                              exact ⟨by rw [HE.out]; rfl, HB.out⟩
                                            | false =>
                                              cases t19 : (S.toList == [83, 84, 49]) with
                                              | true =>
                                                have HE : Hid (rtmP S.toList m (y : Int) (j : Int) = [70, 79, 68, 83]) := Lib.hid (by unfold rtmP; rw [if_neg M19.out]; simp [t0, t1, t2, t3, t4, t5, t6, t7, t8, t9, t10, t11, t12, t13, t14, t15, t16, t17, t18, t19])
                                                go_wp2_with fail
                                                go_ret
                                                exact ⟨by rw [HE.out]; rfl, HB.out⟩
                                              | false =>
                                                cases t20 : (S.toList == [83, 84, 50]) with
                                                | true =>
                                                  have HE : Hid (rtmP S.toList m (y : Int) (j : Int) = [70, 79, 68, 83]) := Lib.hid (by unfold rtmP; rw [if_neg M19.out]; simp [t0, t1, t2, t3, t4, t5, t6, t7, t8, t9, t10, t11, t12, t13, t14, t15, t16, t17, t18, t19, t20])
                                                  go_wp2_with fail
                                                  go_ret
                                                  exact ⟨by rw [HE.out]; rfl, HB.out⟩
                                                | false =>
                                                  cases t21 : (S.toList == [84, 83, 84]) with
                                                  | true =>
                                                    have HE : Hid (mkS (rtmP S.toList m (y : Int) (j : Int)) = H ++ ⟨#[68, 68, 76, 68]⟩) := Lib.hid (by
                                                      have e : rtmP S.toList m (y : Int) (j : Int) = hdL j ++ [68, 68, 76, 68] := by unfold rtmP; rw [if_neg M19.out, HD.out]; simp [t0, t1, t2, t3, t4, t5, t6, t7, t8, t9, t10, t11, t12, t13, t14, t15, t16, t17, t18, t19, t20, t21, HD.out]
                                                      rw [e]; simp only [mkS_app, HH.out, HV.out]; rfl)
                                                    go_wp2_with fail
                                                    go_ret
                                                    exact ⟨by rw [HE.out]; rfl, HB.out⟩
                                                  | false =>
                                                    have hro := rch_or S.toList
                                                    rw [HC.out] at hro
                                                    have HRO := Lib.hid hro
                                                    clear hro
                                                    by_cases m0 : (C && m != 0) = true
                                                    · obtain ⟨c1', c2'⟩ : C = true ∧ m ≠ 0 := by simpa using m0
                                                      subst c1'
                                                      have e0 : ((m : Int) != 0) = true := by simp; omega
                                                      have HE : Hid (mkS (rtmP S.toList m (y : Int) (j : Int)) = H ++ ⟨#[68, 76, 68, 83]⟩) := Lib.hid (by
                                                        have e : rtmP S.toList m (y : Int) (j : Int) = hdL j ++ [68, 76, 68, 83] := by unfold rtmP; rw [if_neg M19.out, HD.out, HRO.out]; simp [t0, t1, t2, t3, t4, t5, t6, t7, t8, t9, t10, t11, t12, t13, t14, t15, t16, t17, t18, t19, t20, t21, c2']
                                                        rw [e]; simp only [mkS_app, HH.out]; rfl)
                                                      clear m0 c2'
                                                      go_wp2_with (go_at_call 60; refine (hch _).mono ?_; rintro e w' ⟨rfl, rfl⟩)
                                                      go_ret
                                                      exact ⟨by rw [HE.out]; rfl, HB.out⟩
                                                    · have m0' : (C && m != 0) = false := by simpa using m0
                                                      have HM0 := Lib.hid m0'
                                                      clear m0 m0'
                                                      cases C with
                                                      | false =>
                                                        by_cases m12 : m = 12
                                                        · have e12 : ((m : Int) == 12) = true := by simp; omega
                                                          have HE : Hid (rtmP S.toList m (y : Int) (j : Int) = [70, 79, 79, 68, 76, 68]) := Lib.hid (by unfold rtmP; rw [if_neg M19.out, HRO.out, HM0.out]; simp [t0, t1, t2, t3, t4, t5, t6, t7, t8, t9, t10, t11, t12, t13, t14, t15, t16, t17, t18, t19, t20, t21, m12])
                                                          clear m12
                                                          go_wp2_with (go_at_call 60; refine (hch _).mono ?_; rintro e w' ⟨rfl, rfl⟩)
                                                          go_ret
                                                          exact ⟨by rw [HE.out]; rfl, HB.out⟩
                                                        · have e12 : ((m : Int) == 12) = false := by simp; omega
                                                          have M12 := Lib.hid m12
                                                          clear m12
                                                          have hsl : S.toList.length = S.size := take_size S
                                                          have HSL := Lib.hid hsl
                                                          clear hsl
                                                          by_cases s4 : S.size = 4
                                                          · have e4 : ((S.size : Int) == 4) = true := by simp; omega
                                                            have HE : Hid (rtmP S.toList m (y : Int) (j : Int) = [70, 79, 68, 76, 68, 68, 83]) := Lib.hid (by unfold rtmP; rw [if_neg M19.out, HRO.out, HM0.out, if_neg M12.out, HSL.out]; simp [t0, t1, t2, t3, t4, t5, t6, t7, t8, t9, t10, t11, t12, t13, t14, t15, t16, t17, t18, t19, t20, t21, s4])
                                                            clear s4
                                                            go_wp2_with (go_at_call 60; refine (hch _).mono ?_; rintro e w' ⟨rfl, rfl⟩)
                                                            go_ret
                                                            exact ⟨by rw [HE.out]; rfl, HB.out⟩
                                                          · have e4 : ((S.size : Int) == 4) = false := by simp; omega
                                                            have S4 := Lib.hid s4
                                                            clear s4
                                                            by_cases mr : 2 ≤ m ∧ m ≤ 10
                                                            · have g1 : (2 : Int) ≤ m := by omega
                                                              have g2 : (m : Int) ≤ 10 := by omega
                                                              have HE : Hid (mkS (rtmP S.toList m (y : Int) (j : Int)) = H ++ V ++ ⟨#[76]⟩) := Lib.hid (by
                                                                have e : rtmP S.toList m (y : Int) (j : Int) = hdL j ++ rwyL m ++ [76] := by unfold rtmP; rw [if_neg M19.out, HRO.out, HM0.out, if_neg M12.out, HSL.out, if_neg S4.out, HD.out]; simp [t0, t1, t2, t3, t4, t5, t6, t7, t8, t9, t10, t11, t12, t13, t14, t15, t16, t17, t18, t19, t20, t21, mr, rwyL]
                                                                rw [e]; simp only [mkS_app, HH.out, HV.out]; rfl)
                                                              clear mr
                                                              go_wp2_with (first | (go_at_call 60; refine (hch _).mono ?_; rintro e w' ⟨rfl, rfl⟩) | (go_at_call 61; refine (hwy _).mono ?_; rintro e w' ⟨rfl, rfl⟩))
                                                              go_ret
                                                              exact ⟨by rw [HE.out]; rfl, HB.out⟩
                                                            · have HE : Hid (rtmP S.toList m (y : Int) (j : Int) = hdL j ++ List.replicate ((y : Int) - (j : Int)).toNat 68) := Lib.hid (by
                                                                unfold rtmP; rw [if_neg M19.out, HRO.out, HM0.out, if_neg M12.out, HSL.out, if_neg S4.out, HD.out]; simp [t0, t1, t2, t3, t4, t5, t6, t7, t8, t9, t10, t11, t12, t13, t14, t15, t16, t17, t18, t19, t20, t21]; intro h1 h2; omega)
                                                              have hmr : (m : Int) < 2 ∨ (10 : Int) < m := by omega
                                                              have R : Hid (∀ q : Nat, mkS (hdL j ++ List.replicate (q + 1) 68) = mkS (hdL j ++ List.replicate q 68) ++ ⟨#[68]⟩) := Lib.hid fun q => by
                                                                show _ = _ ++ mkS [68]
                                                                rw [← mkS_app, List.append_assoc, ← List.replicate_succ']
                                                              have R0 : Hid (H = mkS (hdL j ++ List.replicate 0 68)) := Lib.hid (by rw [← HH.out]; simp)
                                                              clear mr
                                                              rcases hmr with hmr | hmr
                                                              · have g1 : ¬ (2 : Int) ≤ m := by omega
                                                                clear hmr
                                                                go_wp2_with (go_at_call 60; refine (hch _).mono ?_; rintro e w' ⟨rfl, rfl⟩)
                                                                go_loop [4, 7] (fun h i => ∃ q : Nat, (q : Int) ≤ 20 ∧ q ≤ ((y : Int) - (j : Int)).toNat ∧ i = .int .i64 q ∧ h = .string (mkS (hdL j ++ List.replicate q 68))) (fun _ i => 30 - (intOf i).toNat)
                                                                case atStart => exact ⟨0, by omega, by omega, rfl, by rw [R0.out]⟩
                                                                case round =>
                                                                  obtain ⟨q, hq1, hq2, rfl, rfl⟩ := hrel
                                                                  have hqs : (mkS (hdL j ++ List.replicate q 68)).size ≤ 40 := by rw [mkS_size]; unfold hdL; simp; omega
                                                                  have R2 := Lib.hid (R.out q)
                                                                  obtain ⟨Q, hQ⟩ : ∃ Q, mkS (hdL j ++ List.replicate q 68) = Q := ⟨_, rfl⟩
                                                                  rw [hQ] at hqs R2 ⊢
                                                                  have HQ := Lib.hid hQ
                                                                  clear hQ
                                                                  by_cases hlt : (q : Int) < (y : Int) - (j : Int)
                                                                  · go_wp2_with fail
                                                                    go_round
                                                                    case rel => exact ⟨q + 1, by omega, by omega, by go_num, by rw [R2.out]⟩
                                                                    case measure => simp [intOf]; omega
                                                                  · have hqe : q = ((y : Int) - (j : Int)).toNat := by omega
                                                                    have HQE := Lib.hid hqe
                                                                    clear hqe
                                                                    go_wp2_with fail
                                                                    go_ret
                                                                    exact ⟨by rw [HE.out, ← HQE.out, HQ.out]; rfl, HB.out⟩
                                                              · have g1 : (2 : Int) ≤ m := by omega
                                                                have g2 : ¬ (m : Int) ≤ 10 := by omega
                                                                clear hmr
                                                                go_wp2_with (go_at_call 60; refine (hch _).mono ?_; rintro e w' ⟨rfl, rfl⟩)
                                                                go_loop [4, 7] (fun h i => ∃ q : Nat, (q : Int) ≤ 20 ∧ q ≤ ((y : Int) - (j : Int)).toNat ∧ i = .int .i64 q ∧ h = .string (mkS (hdL j ++ List.replicate q 68))) (fun _ i => 30 - (intOf i).toNat)
                                                                case atStart => exact ⟨0, by omega, by omega, rfl, by rw [R0.out]⟩
                                                                case round =>
                                                                  obtain ⟨q, hq1, hq2, rfl, rfl⟩ := hrel
                                                                  have hqs : (mkS (hdL j ++ List.replicate q 68)).size ≤ 40 := by rw [mkS_size]; unfold hdL; simp; omega
                                                                  have R2 := Lib.hid (R.out q)
                                                                  obtain ⟨Q, hQ⟩ : ∃ Q, mkS (hdL j ++ List.replicate q 68) = Q := ⟨_, rfl⟩
                                                                  rw [hQ] at hqs R2 ⊢
                                                                  have HQ := Lib.hid hQ
                                                                  clear hQ
                                                                  by_cases hlt : (q : Int) < (y : Int) - (j : Int)
                                                                  · go_wp2_with fail
                                                                    go_round
                                                                    case rel => exact ⟨q + 1, by omega, by omega, by go_num, by rw [R2.out]⟩
                                                                    case measure => simp [intOf]; omega
                                                                  · have hqe : q = ((y : Int) - (j : Int)).toNat := by omega
                                                                    have HQE := Lib.hid hqe
                                                                    clear hqe
                                                                    go_wp2_with fail
                                                                    go_ret
                                                                    exact ⟨by rw [HE.out, ← HQE.out, HQ.out]; rfl, HB.out⟩
                                                      | true =>
                                                        have m0z : m = 0 := by have := HM0.out; simpa using this
                                                        have e0 : ((m : Int) != 0) = false := by simp; omega
                                                        clear m0z
                                                        by_cases m12 : m = 12
                                                        · have e12 : ((m : Int) == 12) = true := by simp; omega
                                                          have HE : Hid (rtmP S.toList m (y : Int) (j : Int) = [70, 79, 79, 68, 76, 68]) := Lib.hid (by unfold rtmP; rw [if_neg M19.out, HRO.out, HM0.out]; simp [t0, t1, t2, t3, t4, t5, t6, t7, t8, t9, t10, t11, t12, t13, t14, t15, t16, t17, t18, t19, t20, t21, m12])
                                                          clear m12
                                                          go_wp2_with (go_at_call 60; refine (hch _).mono ?_; rintro e w' ⟨rfl, rfl⟩)
                                                          go_ret
                                                          exact ⟨by rw [HE.out]; rfl, HB.out⟩
                                                        · have e12 : ((m : Int) == 12) = false := by simp; omega
                                                          have M12 := Lib.hid m12
                                                          clear m12
                                                          have hsl : S.toList.length = S.size := take_size S
                                                          have HSL := Lib.hid hsl
                                                          clear hsl
                                                          by_cases s4 : S.size = 4
                                                          · have e4 : ((S.size : Int) == 4) = true := by simp; omega
                                                            have HE : Hid (rtmP S.toList m (y : Int) (j : Int) = [70, 79, 68, 76, 68, 68, 83]) := Lib.hid (by unfold rtmP; rw [if_neg M19.out, HRO.out, HM0.out, if_neg M12.out, HSL.out]; simp [t0, t1, t2, t3, t4, t5, t6, t7, t8, t9, t10, t11, t12, t13, t14, t15, t16, t17, t18, t19, t20, t21, s4])
                                                            clear s4
                                                            go_wp2_with (go_at_call 60; refine (hch _).mono ?_; rintro e w' ⟨rfl, rfl⟩)
                                                            go_ret
                                                            exact ⟨by rw [HE.out]; rfl, HB.out⟩
                                                          · have e4 : ((S.size : Int) == 4) = false := by simp; omega
                                                            have S4 := Lib.hid s4
                                                            clear s4
                                                            by_cases mr : 2 ≤ m ∧ m ≤ 10
                                                            · have g1 : (2 : Int) ≤ m := by omega
                                                              have g2 : (m : Int) ≤ 10 := by omega
                                                              have HE : Hid (mkS (rtmP S.toList m (y : Int) (j : Int)) = H ++ V ++ ⟨#[76]⟩) := Lib.hid (by
                                                                have e : rtmP S.toList m (y : Int) (j : Int) = hdL j ++ rwyL m ++ [76] := by unfold rtmP; rw [if_neg M19.out, HRO.out, HM0.out, if_neg M12.out, HSL.out, if_neg S4.out, HD.out]; simp [t0, t1, t2, t3, t4, t5, t6, t7, t8, t9, t10, t11, t12, t13, t14, t15, t16, t17, t18, t19, t20, t21, mr, rwyL]
                                                                rw [e]; simp only [mkS_app, HH.out, HV.out]; rfl)
                                                              clear mr
                                                              go_wp2_with (first | (go_at_call 60; refine (hch _).mono ?_; rintro e w' ⟨rfl, rfl⟩) | (go_at_call 61; refine (hwy _).mono ?_; rintro e w' ⟨rfl, rfl⟩))
                                                              go_ret
                                                              exact ⟨by rw [HE.out]; rfl, HB.out⟩
                                                            · have HE : Hid (rtmP S.toList m (y : Int) (j : Int) = hdL j ++ List.replicate ((y : Int) - (j : Int)).toNat 68) := Lib.hid (by
                                                                unfold rtmP; rw [if_neg M19.out, HRO.out, HM0.out, if_neg M12.out, HSL.out, if_neg S4.out, HD.out]; simp [t0, t1, t2, t3, t4, t5, t6, t7, t8, t9, t10, t11, t12, t13, t14, t15, t16, t17, t18, t19, t20, t21]; intro h1 h2; omega)
                                                              have hmr : (m : Int) < 2 ∨ (10 : Int) < m := by omega
                                                              have R : Hid (∀ q : Nat, mkS (hdL j ++ List.replicate (q + 1) 68) = mkS (hdL j ++ List.replicate q 68) ++ ⟨#[68]⟩) := Lib.hid fun q => by
                                                                show _ = _ ++ mkS [68]
                                                                rw [← mkS_app, List.append_assoc, ← List.replicate_succ']
                                                              have R0 : Hid (H = mkS (hdL j ++ List.replicate 0 68)) := Lib.hid (by rw [← HH.out]; simp)
                                                              clear mr
                                                              rcases hmr with hmr | hmr
                                                              · have g1 : ¬ (2 : Int) ≤ m := by omega
                                                                clear hmr
                                                                go_wp2_with (go_at_call 60; refine (hch _).mono ?_; rintro e w' ⟨rfl, rfl⟩)
                                                                go_loop [4, 7] (fun h i => ∃ q : Nat, (q : Int) ≤ 20 ∧ q ≤ ((y : Int) - (j : Int)).toNat ∧ i = .int .i64 q ∧ h = .string (mkS (hdL j ++ List.replicate q 68))) (fun _ i => 30 - (intOf i).toNat)
                                                                case atStart => exact ⟨0, by omega, by omega, rfl, by rw [R0.out]⟩
                                                                case round =>
                                                                  obtain ⟨q, hq1, hq2, rfl, rfl⟩ := hrel
                                                                  have hqs : (mkS (hdL j ++ List.replicate q 68)).size ≤ 40 := by rw [mkS_size]; unfold hdL; simp; omega
                                                                  have R2 := Lib.hid (R.out q)
                                                                  obtain ⟨Q, hQ⟩ : ∃ Q, mkS (hdL j ++ List.replicate q 68) = Q := ⟨_, rfl⟩
                                                                  rw [hQ] at hqs R2 ⊢
                                                                  have HQ := Lib.hid hQ
                                                                  clear hQ
                                                                  by_cases hlt : (q : Int) < (y : Int) - (j : Int)
                                                                  · go_wp2_with fail
                                                                    go_round
                                                                    case rel => exact ⟨q + 1, by omega, by omega, by go_num, by rw [R2.out]⟩
                                                                    case measure => simp [intOf]; omega
                                                                  · have hqe : q = ((y : Int) - (j : Int)).toNat := by omega
                                                                    have HQE := Lib.hid hqe
                                                                    clear hqe
                                                                    go_wp2_with fail
                                                                    go_ret
                                                                    exact ⟨by rw [HE.out, ← HQE.out, HQ.out]; rfl, HB.out⟩
                                                              · have g1 : (2 : Int) ≤ m := by omega
                                                                have g2 : ¬ (m : Int) ≤ 10 := by omega
                                                                clear hmr
                                                                go_wp2_with (go_at_call 60; refine (hch _).mono ?_; rintro e w' ⟨rfl, rfl⟩)
                                                                go_loop [4, 7] (fun h i => ∃ q : Nat, (q : Int) ≤ 20 ∧ q ≤ ((y : Int) - (j : Int)).toNat ∧ i = .int .i64 q ∧ h = .string (mkS (hdL j ++ List.replicate q 68))) (fun _ i => 30 - (intOf i).toNat)
                                                                case atStart => exact ⟨0, by omega, by omega, rfl, by rw [R0.out]⟩
                                                                case round =>
                                                                  obtain ⟨q, hq1, hq2, rfl, rfl⟩ := hrel
                                                                  have hqs : (mkS (hdL j ++ List.replicate q 68)).size ≤ 40 := by rw [mkS_size]; unfold hdL; simp; omega
                                                                  have R2 := Lib.hid (R.out q)
                                                                  obtain ⟨Q, hQ⟩ : ∃ Q, mkS (hdL j ++ List.replicate q 68) = Q := ⟨_, rfl⟩
                                                                  rw [hQ] at hqs R2 ⊢
                                                                  have HQ := Lib.hid hQ
                                                                  clear hQ
                                                                  by_cases hlt : (q : Int) < (y : Int) - (j : Int)
                                                                  · go_wp2_with fail
                                                                    go_round
                                                                    case rel => exact ⟨q + 1, by omega, by omega, by go_num, by rw [R2.out]⟩
                                                                    case measure => simp [intOf]; omega
                                                                  · have hqe : q = ((y : Int) - (j : Int)).toNat := by omega
                                                                    have HQE := Lib.hid hqe
                                                                    clear hqe
                                                                    go_wp2_with fail
                                                                    go_ret
                                                                    exact ⟨by rw [HE.out, ← HQE.out, HQ.out]; rfl, HB.out⟩
end Go.Proofs.YtmbbcfdeielopaaDoorRRRR
