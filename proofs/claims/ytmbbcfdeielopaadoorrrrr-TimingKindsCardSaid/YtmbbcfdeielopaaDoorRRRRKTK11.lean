/-
  Texts of these proofs, one behind the other: Opc4, Tm0.
-/
import Derived.Test.YtmbbcfdeielopaaDoorRRRRKTK03
import Derived.Test.YtmbbcfdeielopaaDoorRRRRKTK06
import Derived.Test.YtmbbcfdeielopaaDoorRRRRKTK10
import Derived.Test.YtmbbcfdeielopaaDoorRRRRKTK09
namespace Go.Proofs.YtmbbcfdeielopaaDoorRRRR
open Go.RowKit
set_option linter.unusedVariables false
set_option linter.unusedSimpArgs false
set_option maxRecDepth 100000
theorem opN_fin : ∀ b : Fin 256, opN b.val = if opK b.val then trimL ((opC b.val).take 4) else [78, 79, 80] := by decide +kernel
theorem opY_fin : ∀ b : Fin 256, cycP (opN b.val) (opM b.val : Int) = (opY b.val : Int) := by decide +kernel
def opZ (b : Nat) : Int := 1 + bhP (opM b : Int)
def opV (b : Nat) : Value := .agg #[.string (mkS (opN b)), .int .u8 (opM b : Int), .int .i64 (opZ b), .int .i64 (opY b : Int)]
theorem bhP_bd (m : Int) : 0 ≤ bhP m ∧ bhP m ≤ 6 := by unfold bhP; split <;> (try split) <;> (try split) <;> (try split) <;> omega
set_option maxHeartbeats 4000000 in
theorem oof_any (b : Nat) (hb : b < 256) (w : World) : Calls Tryd.prog 19 #[.int .u8 (b : Int)] w fun e w' => e = .returned (opV b) ∧ Below w.heap.size w w' := by
  have hA := fun W => oat_any b hb W
  have hM := fun W => omarked_any b hb W
  have hK := fun W => oknown_any b hb W
  have hT := fun W => otrim_any ((opC b).take 4) (by simp; omega) W
  have hN := opN_fin ⟨b, hb⟩
  have hY := opY_fin ⟨b, hb⟩
  have hC := fun W => ocycles_any (mkS (opN b)) (opM b : Int) W
  have hB := fun W => obehind_any (opM b : Int) W
  have hbd := bhP_bd (opM b : Int)
  dsimp only at hN hY
  rw [mkS_toList, hY] at hC
  unfold opV opZ
  have hx : (mkS (opC b)).extract 4 6 = mkS ((opC b).drop 4) := by rw [mkS_ext, List.take_of_length_le (by rw [List.length_drop, opC_len b hb]; omega)]
  have hx4 : (mkS (opC b)).extract 0 4 = mkS ((opC b).take 4) := by rw [mkS_ext, List.drop_zero]
  have hz : (mkS (opC b)).size = 6 := by rw [mkS_size, opC_len b hb]
  obtain ⟨m, hm⟩ : ∃ m : Int, (opM b : Int) = m := ⟨_, rfl⟩
  obtain ⟨h, hh⟩ : ∃ h : Int, bhP m = h := ⟨_, rfl⟩
  obtain ⟨y, hy⟩ : ∃ y : Int, (opY b : Int) = y := ⟨_, rfl⟩
  obtain ⟨S, hS⟩ : ∃ S, mkS (opC b) = S := ⟨_, rfl⟩
  obtain ⟨k, hk⟩ : ∃ k, opK b = k := ⟨_, rfl⟩
  obtain ⟨R, hR⟩ : ∃ R, mkS (opN b) = R := ⟨_, rfl⟩
  obtain ⟨X, hX⟩ : ∃ X, mkS ((opC b).drop 4) = X := ⟨_, rfl⟩
  obtain ⟨Y, hYY⟩ : ∃ Y, mkS ((opC b).take 4) = Y := ⟨_, rfl⟩
  rw [hS] at hA hx hx4 hz
  rw [hX] at hM hx
  rw [hYY] at hT hx4
  rw [hR] at hC ⊢
  rw [hm] at hM hC hB hbd ⊢
  rw [hh] at hB hbd ⊢
  rw [hy] at hC ⊢
  rw [hk] at hK hN
  obtain ⟨g0, g1⟩ := hbd
  have hw : IntKind.i64.wrap (1 + h) = 1 + h := IntWalk.i64_in _ (by omega)
  cases k with
  | true =>
    rw [if_pos rfl] at hN
    rw [← hN, hR] at hT
    clear hm hh hy hS hk hX hYY hN hY hR
    go_enter Tryd.func19, Tryd.ntmps19
    go_wp2_with (first
      | (go_at_call 33; refine (hA _).mono ?_; rintro e w' ⟨rfl, rfl⟩)
      | (go_at_call 32; refine (hM _).mono ?_; rintro e w' ⟨rfl, rfl⟩)
      | (go_at_call 34; refine (hB _).mono ?_; rintro e w' ⟨rfl, rfl⟩)
      | (go_at_call 35; refine (hK _).mono ?_; rintro e w' ⟨rfl, rfl⟩)
      | (go_at_call 36; refine (hT _).mono ?_; rintro e w' ⟨rfl, rfl⟩)
      | (go_at_call 37; refine (hC _).mono ?_; rintro e w' ⟨rfl, rfl⟩))
    have HX : Blk ((w.alloc (.cells #[.string R, .int .u8 m, .int .i64 (1 + h), .int .i64 y] 51)).alloc (.cells #[.string R, .int .u8 m, .int .i64 (1 + h), .int .i64 y] 51)) w.heap.size 51 #[.string R, .int .u8 m, .int .i64 (1 + h), .int .i64 y] := Blk.alloc (Blk.new_ rfl) _
    refine bodyPost_ret (v := .agg #[.string R, .int .u8 m, .int .i64 (1 + h), .int .i64 y]) (results_cell (a := ⟨w.heap.size, 0, none⟩) Tryd.results19 (by rfl) (HX.run_load (P := Tryd.prog) Tryd.underlying51 rfl (by kernel_rfl))) rfl ?_
    exact ⟨rfl, ((Below.refl _ w).alloc (Nat.le_refl _) _).alloc (by simp) _⟩
  | false =>
    rw [if_neg (by decide)] at hN
    rw [hN] at hR
    have hR2 : R = ⟨#[78, 79, 80]⟩ := hR.symm
    subst hR2
    clear hm hh hy hS hk hX hYY hN hY hR
    go_enter Tryd.func19, Tryd.ntmps19
    go_wp2_with (first
      | (go_at_call 33; refine (hA _).mono ?_; rintro e w' ⟨rfl, rfl⟩)
      | (go_at_call 32; refine (hM _).mono ?_; rintro e w' ⟨rfl, rfl⟩)
      | (go_at_call 34; refine (hB _).mono ?_; rintro e w' ⟨rfl, rfl⟩)
      | (go_at_call 35; refine (hK _).mono ?_; rintro e w' ⟨rfl, rfl⟩)
      | (go_at_call 37; refine (hC _).mono ?_; rintro e w' ⟨rfl, rfl⟩))
    have HX : Blk ((w.alloc (.cells #[.string ⟨#[78, 79, 80]⟩, .int .u8 m, .int .i64 (1 + h), .int .i64 y] 51)).alloc (.cells #[.string ⟨#[78, 79, 80]⟩, .int .u8 m, .int .i64 (1 + h), .int .i64 y] 51)) w.heap.size 51 #[.string ⟨#[78, 79, 80]⟩, .int .u8 m, .int .i64 (1 + h), .int .i64 y] := Blk.alloc (Blk.new_ rfl) _
    refine bodyPost_ret (v := .agg #[.string ⟨#[78, 79, 80]⟩, .int .u8 m, .int .i64 (1 + h), .int .i64 y]) (results_cell (a := ⟨w.heap.size, 0, none⟩) Tryd.results19 (by rfl) (HX.run_load (P := Tryd.prog) Tryd.underlying51 rfl (by kernel_rfl))) rfl ?_
    exact ⟨rfl, ((Below.refl _ w).alloc (Nat.le_refl _) _).alloc (by simp) _⟩
end Go.Proofs.YtmbbcfdeielopaaDoorRRRR
namespace Go.Proofs.YtmbbcfdeielopaaDoorRRRR
set_option maxRecDepth 100000
def tmDone (t : List UInt8) : List UInt8 :=
  if t == [83, 84, 65] || t == [83, 84, 88] || t == [83, 84, 89] || t == [83, 84, 90] then [83] else
  if t == [65, 83, 76] || t == [76, 83, 82] || t == [82, 79, 76] || t == [82, 79, 82] || t == [73, 78, 67] || t == [68, 69, 67] || t == [84, 83, 66] || t == [84, 82, 66] then [76, 68, 83] else
  if t == [82, 77, 66] || t == [83, 77, 66] then [76, 68, 68, 83] else
  if t == [84, 83, 84] then [76, 68] else
  if t == [74, 77, 80] then [] else
  if t == [74, 83, 82] then [80, 80, 68] else
  [76]
def tmImp (t : List UInt8) : List UInt8 :=
  if t == [80, 72, 65] || t == [80, 72, 88] || t == [80, 72, 89] || t == [80, 72, 80] then [68, 80] else
  if t == [80, 76, 65] || t == [80, 76, 88] || t == [80, 76, 89] || t == [80, 76, 80] then [68, 68, 85] else
  if t == [82, 84, 83] then [68, 68, 85, 85, 68, 68] else
  if t == [82, 84, 73] then [68, 68, 85, 85, 85, 68] else
  if t == [83, 65, 88] || t == [83, 65, 89] || t == [83, 88, 89] || t == [67, 83, 76] || t == [67, 83, 72] then [68, 68] else
  [68]
def tmImm (t : List UInt8) : List UInt8 :=
  if t == [66, 82, 75] then [80, 80, 80, 86, 86, 68] else
  if t == [84, 65, 77] then [68, 68, 68] else
  if t == [84, 77, 65] then [68, 68] else
  if t == [83, 84, 48] || t == [83, 84, 49] || t == [83, 84, 50] then [68, 83] else
  []
def tmLong (t : List UInt8) (T D : Bool) : List UInt8 :=
  if t == [65, 78, 68] || t == [79, 82, 65] || t == [69, 79, 82] then (if T then [76, 68, 83] else []) else
  if t == [65, 68, 67] then (if T then [76, 68, 83] else []) ++ (if D then [68] else []) else
  if t == [83, 66, 67] then (if D then [68] else []) else []
def tmFound (m : Nat) : List UInt8 := if m = 8 ∨ m = 9 ∨ m = 10 ∨ m = 17 ∨ m = 18 then [68, 76, 76, 68] else if m = 13 ∨ m = 14 ∨ m = 15 ∨ m = 16 then [68, 68] else [68]
def tmBr (t : List UInt8) (m : Nat) (K : Bool) : List UInt8 := (if m = 12 then [68, 76, 68] else []) ++ (if t == [66, 83, 82] then [68, 80, 80, 68, 68, 68] else if K || t == [66, 82, 65] then [68, 68] else [])
def tmOs (m : Nat) : List UInt8 := List.replicate (bhP (m : Int)).toNat 79
/-- The letters ahead of a block's bytes; of what is no block all of them. -/
def tmA (t : List UInt8) (m : Nat) (T D K : Bool) : List UInt8 :=
  if m = 19 then [70] ++ [80, 80, 80] ++ tmOs m ++ [68] else
  if m = 0 then [70] ++ tmImp t else
  if m = 1 then [70] ++ tmOs m ++ tmImm t ++ tmLong t T D else
  if m = 11 ∨ m = 12 then [70] ++ tmOs m ++ tmBr t m K else
  [70] ++ tmOs m ++ tmFound m ++ tmDone (t.take 3) ++ tmLong t T D
def tmB (m : Nat) : List UInt8 := if m = 19 then [68, 85, 85, 85, 68, 68] else []
def tmMv (m : Nat) (n : Int) : Nat := if m = 19 then (min (max n 0) 65536).toNat else 0
def repL (l : List UInt8) (n : Nat) : List UInt8 := (List.replicate n l).flatten
/-- The letters of an instruction's accesses. -/
def tmL (b : Nat) (T D K : Bool) (n : Int) : List UInt8 := tmA (opN b) (opM b) T D K ++ repL [68, 76, 68, 68, 83, 68] (tmMv (opM b) n) ++ tmB (opM b)
/-- The kind of a letter. -/
def knd (c : UInt8) : Nat := ([70, 79, 68, 76, 83, 80, 85, 86] : List UInt8).findIdx (· == c)
/-- The document's letters, without what makes an instruction longer. -/
def rtmP (t : List UInt8) (m : Nat) (y : Int) (z : Int) : List UInt8 :=
  let head := [70] ++ List.replicate (z - 1).toNat 79
  let ways : List UInt8 := if 8 ≤ m ∧ m ≤ 10 then [68, 76, 76, 68] else [68]
  if m = 19 then [70, 80, 80, 80, 79, 79, 79, 79, 79, 79, 68, 68, 85, 85, 85, 68, 68] else
  if t == [80, 72, 65] || t == [80, 72, 80] || t == [80, 72, 88] || t == [80, 72, 89] then [70, 68, 80] else
  if t == [80, 76, 65] || t == [80, 76, 80] || t == [80, 76, 88] || t == [80, 76, 89] then [70, 68, 68, 85] else
  if t == [82, 84, 83] then [70, 68, 68, 85, 85, 68, 68] else
  if t == [82, 84, 73] then [70, 68, 68, 85, 85, 85, 68] else
  if t == [66, 82, 75] then [70, 79, 80, 80, 80, 86, 86, 68] else
  if t == [66, 83, 82] then [70, 79, 68, 80, 80, 68, 68, 68] else
  if t == [74, 83, 82] then [70, 79, 79, 68, 80, 80, 68] else
  if t == [74, 77, 80] then (if m = 5 then [70, 79, 79, 68] else [70, 79, 79, 68, 76, 76, 68]) else
  if t == [83, 84, 65] || t == [83, 84, 88] || t == [83, 84, 89] || t == [83, 84, 90] then head ++ ways ++ [83] else
  if t == [83, 84, 48] || t == [83, 84, 49] || t == [83, 84, 50] then [70, 79, 68, 83] else
  if t == [84, 83, 84] then head ++ [68, 68, 76, 68] else
  if (t == [65, 83, 76] || t == [76, 83, 82] || t == [82, 79, 76] || t == [82, 79, 82] || t == [73, 78, 67] || t == [68, 69, 67] || t == [84, 83, 66] || t == [84, 82, 66]) && m != 0 then head ++ [68, 76, 68, 83] else
  if m = 12 then [70, 79, 79, 68, 76, 68] else
  if t.length = 4 then [70, 79, 68, 76, 68, 68, 83] else
  if 2 ≤ m ∧ m ≤ 10 then head ++ ways ++ [76] else
  head ++ List.replicate (y - z).toNat 68
def rtmX (t : List UInt8) (m : Nat) (T D K : Bool) : List UInt8 :=
  (if T && (t == [65, 78, 68] || t == [79, 82, 65] || t == [69, 79, 82] || t == [65, 68, 67]) then [76, 68, 83] else []) ++ (if D && (t == [65, 68, 67] || t == [83, 66, 67]) then [68] else []) ++
  (if K && (m == 12 || m == 11 && !(t == [66, 82, 65] || t == [66, 83, 82])) then [68, 68] else [])
def rtmL (b : Nat) (T D K : Bool) (n : Int) : List UInt8 :=
  if opM b = 19 then (rtmP (opN b) 19 (opY b) (opZ b)).take 11 ++ repL [68, 76, 68, 68, 83, 68] (min (max n 0) 65536).toNat ++ [68, 85, 85, 85, 68, 68] else
  rtmP (opN b) (opM b) (opY b) (opZ b) ++ rtmX (opN b) (opM b) T D K
set_option maxHeartbeats 40000000
theorem tm_fin : ∀ b : Fin 256, ∀ T D K : Bool, (opM b.val = 19 → tmA (opN b.val) (opM b.val) T D K = (rtmP (opN b.val) 19 (opY b.val) (opZ b.val)).take 11) ∧ (opM b.val ≠ 19 → tmA (opN b.val) (opM b.val) T D K = rtmP (opN b.val) (opM b.val) (opY b.val) (opZ b.val) ++ rtmX (opN b.val) (opM b.val) T D K) := by decide +kernel
theorem tmA_bd : ∀ b : Fin 256, ∀ T D K : Bool, 2 ≤ (tmA (opN b.val) (opM b.val) T D K).length ∧ (tmA (opN b.val) (opM b.val) T D K).length ≤ 20 ∧ (tmA (opN b.val) (opM b.val) T D K).head? = some 70 ∧ ((tmA (opN b.val) (opM b.val) T D K).drop 1).all (fun c => decide (c ∈ ([79, 68, 76, 83, 80, 85, 86] : List UInt8))) = true ∧ 3 ≤ (opN b.val).length ∧ (opN b.val).length ≤ 4 := by decide +kernel
theorem tm_eq (b : Nat) (hb : b < 256) (T D K : Bool) (n : Int) : tmL b T D K n = rtmL b T D K n := by
  have h := tm_fin ⟨b, hb⟩ T D K
  dsimp only at h
  unfold tmL rtmL tmMv tmB
  by_cases h19 : opM b = 19
  · rw [if_pos h19, if_pos h19, if_pos h19, ← h.1 h19]
  · rw [if_neg h19, if_neg h19, if_neg h19, ← h.2 h19]
    simp [repL]
end Go.Proofs.YtmbbcfdeielopaaDoorRRRR
