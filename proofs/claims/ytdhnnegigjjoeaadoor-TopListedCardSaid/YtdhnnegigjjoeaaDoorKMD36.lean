/-
  Texts of these proofs, one behind the other: Mod11, Mod12, Rmd4, Mod13.
-/
import Derived.Test.YtdhnnegigjjoeaaDoorKMD28
import Derived.Test.YtdhnnegigjjoeaaDoorKMD31
import Derived.Test.YtdhnnegigjjoeaaDoorKMD33
import Derived.Test.YtdhnnegigjjoeaaDoorKMD35
import Derived.Test.YtdhnnegigjjoeaaDoorKMD17
import Derived.Deep.QuietTactic
import Derived.Deep.RegionWith
import Derived.BigQuiet
import Derived.Test.YtdhnnegigjjoeaaDoorKMD32
import Derived.Test.YtdhnnegigjjoeaaDoorKMD07
namespace Go.Proofs.YtdhnnegigjjoeaaDoor
open Go.RowKit
set_option linter.unusedVariables false
set_option linter.unusedSimpArgs false
set_option maxRecDepth 100000
set_option maxHeartbeats 1000000 in
theorem mmean_any (m : Nat) (m0 : 1 ≤ m) (m1 : m < 20) (n : Nat) (hn : (n : Int) = mbP m) (ad : Addr) (c : Nat) (z : Nat → Int) (b : Int) (b0 : 0 ≤ b) (b1 : b ≤ 65535) (hc : n ≤ c) (w : World) (R : IRow w .u8 (some ad) n z) : Calls Tryd.prog 40 #[.int .u8 (m : Int), .slice (some ad) n c, .int .u16 b] w fun e w' => e = .returned (.string (mkS (opdU m z b))) ∧ Below w.heap.size w w' := by
  rcases modes_of m with rfl | rfl | rfl | rfl | rfl | rfl | rfl | rfl | rfl | rfl | rfl | rfl | rfl | rfl | rfl | rfl | rfl | rfl | rfl | rfl | h
  · omega
  · obtain rfl : n = 1 := by
      have h : mbP 1 = 1 := by decide
      omega
    rw [show (((1 : Nat)) : Int) = 1 from rfl]
    exact mmean_1 ad c z b b0 b1 hc w R
  · obtain rfl : n = 1 := by
      have h : mbP 2 = 1 := by decide
      omega
    rw [show (((2 : Nat)) : Int) = 2 from rfl]
    exact mmean_2 ad c z b b0 b1 hc w R
  · obtain rfl : n = 1 := by
      have h : mbP 3 = 1 := by decide
      omega
    rw [show (((3 : Nat)) : Int) = 3 from rfl]
    exact mmean_3 ad c z b b0 b1 hc w R
  · obtain rfl : n = 1 := by
      have h : mbP 4 = 1 := by decide
      omega
    rw [show (((4 : Nat)) : Int) = 4 from rfl]
    exact mmean_4 ad c z b b0 b1 hc w R
  · obtain rfl : n = 2 := by
      have h : mbP 5 = 2 := by decide
      omega
    rw [show (((5 : Nat)) : Int) = 5 from rfl]
    exact mmean_5 ad c z b b0 b1 hc w R
  · obtain rfl : n = 2 := by
      have h : mbP 6 = 2 := by decide
      omega
    rw [show (((6 : Nat)) : Int) = 6 from rfl]
    exact mmean_6 ad c z b b0 b1 hc w R
  · obtain rfl : n = 2 := by
      have h : mbP 7 = 2 := by decide
      omega
    rw [show (((7 : Nat)) : Int) = 7 from rfl]
    exact mmean_7 ad c z b b0 b1 hc w R
  · obtain rfl : n = 1 := by
      have h : mbP 8 = 1 := by decide
      omega
    rw [show (((8 : Nat)) : Int) = 8 from rfl]
    exact mmean_8 ad c z b b0 b1 hc w R
  · obtain rfl : n = 1 := by
      have h : mbP 9 = 1 := by decide
      omega
    rw [show (((9 : Nat)) : Int) = 9 from rfl]
    exact mmean_9 ad c z b b0 b1 hc w R
  · obtain rfl : n = 1 := by
      have h : mbP 10 = 1 := by decide
      omega
    rw [show (((10 : Nat)) : Int) = 10 from rfl]
    exact mmean_10 ad c z b b0 b1 hc w R
  · obtain rfl : n = 1 := by
      have h : mbP 11 = 1 := by decide
      omega
    rw [show (((11 : Nat)) : Int) = 11 from rfl]
    exact mmean_11 ad c z b b0 b1 hc w R
  · obtain rfl : n = 2 := by
      have h : mbP 12 = 2 := by decide
      omega
    rw [show (((12 : Nat)) : Int) = 12 from rfl]
    exact mmean_12 ad c z b b0 b1 hc w R
  · obtain rfl : n = 2 := by
      have h : mbP 13 = 2 := by decide
      omega
    rw [show (((13 : Nat)) : Int) = 13 from rfl]
    exact mmean_13 ad c z b b0 b1 hc w R
  · obtain rfl : n = 2 := by
      have h : mbP 14 = 2 := by decide
      omega
    rw [show (((14 : Nat)) : Int) = 14 from rfl]
    exact mmean_14 ad c z b b0 b1 hc w R
  · obtain rfl : n = 3 := by
      have h : mbP 15 = 3 := by decide
      omega
    rw [show (((15 : Nat)) : Int) = 15 from rfl]
    exact mmean_15 ad c z b b0 b1 hc w R
  · obtain rfl : n = 3 := by
      have h : mbP 16 = 3 := by decide
      omega
    rw [show (((16 : Nat)) : Int) = 16 from rfl]
    exact mmean_16 ad c z b b0 b1 hc w R
  · obtain rfl : n = 2 := by
      have h : mbP 17 = 2 := by decide
      omega
    rw [show (((17 : Nat)) : Int) = 17 from rfl]
    exact mmean_17 ad c z b b0 b1 hc w R
  · obtain rfl : n = 2 := by
      have h : mbP 18 = 2 := by decide
      omega
    rw [show (((18 : Nat)) : Int) = 18 from rfl]
    exact mmean_18 ad c z b b0 b1 hc w R
  · obtain rfl : n = 6 := by
      have h : mbP 19 = 6 := by decide
      omega
    rw [show (((19 : Nat)) : Int) = 19 from rfl]
    exact mmean_19 ad c z b b0 b1 hc w R
  · omega
set_option maxHeartbeats 1000000 in
theorem rop_any (m : Nat) (m0 : 1 ≤ m) (m1 : m < 20) (n : Nat) (hn : (n : Int) = mbP m) (ad : Addr) (c : Nat) (z : Nat → Int) (b : Int) (b0 : 0 ≤ b) (b1 : b ≤ 65535) (hc : n ≤ c) (w : World) (R : IRow w .u8 (some ad) n z) : Calls Tryd.prog 37 #[.int .u8 (m : Int), .slice (some ad) n c, .int .u16 b] w fun e w' => e = .returned (.string (mkS (opdU m z b))) ∧ ∃ k, w' = w.drewN k := by
  rcases modes_of m with rfl | rfl | rfl | rfl | rfl | rfl | rfl | rfl | rfl | rfl | rfl | rfl | rfl | rfl | rfl | rfl | rfl | rfl | rfl | rfl | h
  · omega
  · obtain rfl : n = 1 := by
      have h : mbP 1 = 1 := by decide
      omega
    rw [show (((1 : Nat)) : Int) = 1 from rfl]
    exact rop_1 ad c z b b0 b1 hc w R
  · obtain rfl : n = 1 := by
      have h : mbP 2 = 1 := by decide
      omega
    rw [show (((2 : Nat)) : Int) = 2 from rfl]
    exact rop_2 ad c z b b0 b1 hc w R
  · obtain rfl : n = 1 := by
      have h : mbP 3 = 1 := by decide
      omega
    rw [show (((3 : Nat)) : Int) = 3 from rfl]
    exact rop_3 ad c z b b0 b1 hc w R
  · obtain rfl : n = 1 := by
      have h : mbP 4 = 1 := by decide
      omega
    rw [show (((4 : Nat)) : Int) = 4 from rfl]
    exact rop_4 ad c z b b0 b1 hc w R
  · obtain rfl : n = 2 := by
      have h : mbP 5 = 2 := by decide
      omega
    rw [show (((5 : Nat)) : Int) = 5 from rfl]
    exact rop_5 ad c z b b0 b1 hc w R
  · obtain rfl : n = 2 := by
      have h : mbP 6 = 2 := by decide
      omega
    rw [show (((6 : Nat)) : Int) = 6 from rfl]
    exact rop_6 ad c z b b0 b1 hc w R
  · obtain rfl : n = 2 := by
      have h : mbP 7 = 2 := by decide
      omega
    rw [show (((7 : Nat)) : Int) = 7 from rfl]
    exact rop_7 ad c z b b0 b1 hc w R
  · obtain rfl : n = 1 := by
      have h : mbP 8 = 1 := by decide
      omega
    rw [show (((8 : Nat)) : Int) = 8 from rfl]
    exact rop_8 ad c z b b0 b1 hc w R
  · obtain rfl : n = 1 := by
      have h : mbP 9 = 1 := by decide
      omega
    rw [show (((9 : Nat)) : Int) = 9 from rfl]
    exact rop_9 ad c z b b0 b1 hc w R
  · obtain rfl : n = 1 := by
      have h : mbP 10 = 1 := by decide
      omega
    rw [show (((10 : Nat)) : Int) = 10 from rfl]
    exact rop_10 ad c z b b0 b1 hc w R
  · obtain rfl : n = 1 := by
      have h : mbP 11 = 1 := by decide
      omega
    rw [show (((11 : Nat)) : Int) = 11 from rfl]
    exact rop_11 ad c z b b0 b1 hc w R
  · obtain rfl : n = 2 := by
      have h : mbP 12 = 2 := by decide
      omega
    rw [show (((12 : Nat)) : Int) = 12 from rfl]
    exact rop_12 ad c z b b0 b1 hc w R
  · obtain rfl : n = 2 := by
      have h : mbP 13 = 2 := by decide
      omega
    rw [show (((13 : Nat)) : Int) = 13 from rfl]
    exact rop_13 ad c z b b0 b1 hc w R
  · obtain rfl : n = 2 := by
      have h : mbP 14 = 2 := by decide
      omega
    rw [show (((14 : Nat)) : Int) = 14 from rfl]
    exact rop_14 ad c z b b0 b1 hc w R
  · obtain rfl : n = 3 := by
      have h : mbP 15 = 3 := by decide
      omega
    rw [show (((15 : Nat)) : Int) = 15 from rfl]
    exact rop_15 ad c z b b0 b1 hc w R
  · obtain rfl : n = 3 := by
      have h : mbP 16 = 3 := by decide
      omega
    rw [show (((16 : Nat)) : Int) = 16 from rfl]
    exact rop_16 ad c z b b0 b1 hc w R
  · obtain rfl : n = 2 := by
      have h : mbP 17 = 2 := by decide
      omega
    rw [show (((17 : Nat)) : Int) = 17 from rfl]
    exact rop_17 ad c z b b0 b1 hc w R
  · obtain rfl : n = 2 := by
      have h : mbP 18 = 2 := by decide
      omega
    rw [show (((18 : Nat)) : Int) = 18 from rfl]
    exact rop_18 ad c z b b0 b1 hc w R
  · obtain rfl : n = 6 := by
      have h : mbP 19 = 6 := by decide
      omega
    rw [show (((19 : Nat)) : Int) = 19 from rfl]
    exact rop_19 ad c z b b0 b1 hc w R
  · omega
/-- Is an instruction there whole? -/
def whB (z : Nat → Int) (n : Nat) : Bool := opK (z 0).toNat && decide (szN (z 0) ≤ n)
/-- An instruction, written. -/
def txU (z : Nat → Int) (n : Nat) (a : Int) : List UInt8 :=
  if n = 0 then [] else if whB z n = true then
    (if opM (z 0).toNat = 0 then opN (z 0).toNat else opN (z 0).toNat ++ 32 :: opdU (opM (z 0).toNat) (fun i => z (i + 1)) ((a + szN (z 0)) % 65536))
  else [46, 98, 121, 116, 101, 32] ++ N1 (z 0)
/-- How many bytes it tells. -/
def txZ (z : Nat → Int) (n : Nat) : Nat := if n = 0 then 0 else if whB z n = true then szN (z 0) else 1
theorem op_fin : ∀ b : Fin 256, ((opN b.val).length = 3 ∨ (opN b.val).length = 4) ∧ opM b.val < 20 ∧ (opZ b.val).toNat = 1 + (mbP (opM b.val)).toNat ∧ 0 ≤ mbP (opM b.val) ∧ (mbP (opM b.val)).toNat ≤ 6 ∧ (opM b.val = 0 → mbP (opM b.val) = 0) ∧ (opM b.val ≠ 0 → 1 ≤ mbP (opM b.val)) := by decide +kernel
set_option maxHeartbeats 4000000 in
theorem mwhole_any (ad : Addr) (n c : Nat) (z : Nat → Int) (hn : 1 ≤ n) (hs : n ≤ 1099511627776) (w : World) (R : IRow w .u8 (some ad) n z) : Calls Tryd.prog 38 #[.slice (some ad) n c] w fun e w' => e = .returned (.bool (whB z n)) ∧ Below w.heap.size w w' := by
  obtain ⟨z0, z1⟩ := R.bd 0 (by omega)
  obtain ⟨b, hb⟩ : ∃ b : Nat, (z 0) = (b : Int) := ⟨(z 0).toNat, by omega⟩
  have hb2 : b < 256 := by omega
  have hc0 : w.cell? ad = some (.int .u8 (b : Int)) := by rw [← hb]; exact R.cellv 0 (by omega)
  have hK := fun W => oknown_any b hb2 W
  have hO := fun W => oof_any b hb2 W
  have hfl := fun (k : Int) (W : World) => op_field (mkS (opN b)) (opM b : Int) k (opY b : Int) W
  have hsz := szN_eq (z 0)
  unfold opV at hO
  unfold whB
  rw [hb] at hsz ⊢
  rw [show ((b : Int)).toNat = b by omega] at hsz ⊢
  rw [← hsz] at hO
  obtain ⟨s, hs2⟩ : ∃ s, szN (b : Int) = s := ⟨_, rfl⟩
  rw [hs2] at hO ⊢
  obtain ⟨k, hk⟩ : ∃ k, opK b = k := ⟨_, rfl⟩
  rw [hk] at hK ⊢
  generalize mkS (opN b) = S at hO hfl
  generalize (opM b : Int) = m at hO hfl
  generalize (opY b : Int) = y at hO hfl
  have n0 : (0 : Int) < n := by omega
  clear R hb hsz hs2 hk
  cases k with
  | false =>
    go_enter Tryd.func38, Tryd.ntmps38
    go_wp2_with (go_at_call 25; refine (hK _).mono ?_; rintro e w' ⟨rfl, rfl⟩)
    go_ret
    exact ⟨rfl, Below.refl _ _⟩
  | true =>
    go_enter Tryd.func38, Tryd.ntmps38
    go_wp2_with (go_at_call 25; refine (hK _).mono ?_; rintro e w' ⟨rfl, rfl⟩)
    refine (hO _).mono ?_
    rintro e w1 ⟨rfl, hb1⟩
    have HB1 := Lib.hid hb1
    clear hb1
    go_wp2_with fail
    go_ret
    refine ⟨?_, HB1.out⟩
    rw [Bool.true_and]
    rfl
end Go.Proofs.YtdhnnegigjjoeaaDoor
namespace Go.Proofs.YtdhnnegigjjoeaaDoor
open Go.RowKit
set_option linter.unusedVariables false
set_option linter.unusedSimpArgs false
set_option maxRecDepth 100000
theorem txU_no (z : Nat → Int) (n : Nat) (a : Int) (hn : 1 ≤ n) (h : whB z n = false) : txU z n a = [46, 98, 121, 116, 101, 32] ++ N1 (z 0) := by
  unfold txU
  rw [if_neg (by omega), if_neg (by rw [h]; decide)]
theorem txU_im (z : Nat → Int) (n : Nat) (a : Int) (hn : 1 ≤ n) (h : whB z n = true) (h0 : opM (z 0).toNat = 0) : txU z n a = opN (z 0).toNat := by
  unfold txU
  rw [if_neg (by omega), if_pos h, if_pos h0]
theorem txU_op (z : Nat → Int) (n : Nat) (a : Int) (hn : 1 ≤ n) (h : whB z n = true) (h0 : opM (z 0).toNat ≠ 0) : txU z n a = opN (z 0).toNat ++ 32 :: opdU (opM (z 0).toNat) (fun i => z (i + 1)) ((a + szN (z 0)) % 65536) := by
  unfold txU
  rw [if_neg (by omega), if_pos h, if_neg h0]
set_option maxHeartbeats 4000000 in
theorem mtext_0 (A : Option Addr) (c : Nat) (z : Nat → Int) (a : Int) (w : World) : Calls Tryd.prog 20 #[.slice A 0 c, .int .u16 a] w fun e w' => e = .returned (.string (mkS (txU z 0 a))) ∧ Below w.heap.size w w' := by
  go_enter Tryd.func20, Tryd.ntmps20
  go_wp2
  go_ret
  exact ⟨rfl, Below.refl _ _⟩
set_option maxHeartbeats 4000000 in
theorem mtext_no (ad : Addr) (n c : Nat) (z : Nat → Int) (a : Int) (hn : 1 ≤ n) (hs : n ≤ 1099511627776) (h : whB z n = false) (w : World) (R : IRow w .u8 (some ad) n z) : Calls Tryd.prog 20 #[.slice (some ad) n c, .int .u16 a] w fun e w' => e = .returned (.string (mkS (txU z n a))) ∧ Below w.heap.size w w' := by
  rw [txU_no z n a hn h]
  obtain ⟨z0, z1⟩ := R.bd 0 (by omega)
  have hW := mwhole_any ad n c z hn hs w R
  rw [h] at hW
  have hS := fun W => mnumN_1 (z 0) z0 z1 W
  have hE := mkS_cat [46, 98, 121, 116, 101, 32] (N1 (z 0))
  obtain ⟨S, eS⟩ : ∃ S, mkS (N1 (z 0)) = S := ⟨_, rfl⟩
  have sS : S.size = 3 := by rw [← eS, mkS_size', N1_len]
  rw [eS] at hS hE
  have HE := Lib.hid hE
  have HR := Lib.hid R
  have n0 : (0 : Int) < n := by omega
  have n2 : ((n : Int) == 0) = false := by simp; omega
  clear R h hE eS
  go_enter Tryd.func20, Tryd.ntmps20
  go_wp2_with fail
  refine hW.mono ?_
  rintro e w1 ⟨rfl, hb1⟩
  have HB1 := Lib.hid hb1
  have hc0 : w1.cell? ad = some (.int .u8 (z 0)) := (HR.out.keep hb1).cellv 0 (by omega)
  clear hb1
  go_wp2_with fail
  refine (hS _).mono ?_
  rintro e w2 ⟨rfl, hb2⟩
  have HB2 := Lib.hid (HB1.out.trans (hb2.mono HB1.out.size))
  clear hb2
  go_wp2_with fail
  go_ret
  exact ⟨congrArg (fun s => Ending.returned (Value.string s)) HE.out, HB2.out⟩
set_option maxHeartbeats 4000000 in
theorem mtext_im (ad : Addr) (n c : Nat) (z : Nat → Int) (a : Int) (hn : 1 ≤ n) (hs : n ≤ 1099511627776) (h : whB z n = true) (h0 : opM (z 0).toNat = 0) (w : World) (R : IRow w .u8 (some ad) n z) : Calls Tryd.prog 20 #[.slice (some ad) n c, .int .u16 a] w fun e w' => e = .returned (.string (mkS (txU z n a))) ∧ Below w.heap.size w w' := by
  rw [txU_im z n a hn h h0]
  obtain ⟨z0, z1⟩ := R.bd 0 (by omega)
  have hW := mwhole_any ad n c z hn hs w R
  rw [h] at hW
  obtain ⟨b, hb⟩ : ∃ b : Nat, (z 0) = (b : Int) := ⟨(z 0).toNat, by omega⟩
  have hO := fun W => oof_any b (by omega) W
  unfold opV at hO
  rw [hb, show ((b : Int)).toNat = b by omega] at h0 ⊢
  rw [h0] at hO
  generalize mkS (opN b) = S at hO ⊢
  generalize opZ b = s at hO
  generalize (opY b : Int) = y at hO
  have HR := Lib.hid R
  have n0 : (0 : Int) < n := by omega
  have n2 : ((n : Int) == 0) = false := by simp; omega
  have HZ := Lib.hid hb
  clear R h hb h0
  go_enter Tryd.func20, Tryd.ntmps20
  go_wp2_with fail
  refine hW.mono ?_
  rintro e w1 ⟨rfl, hb1⟩
  have HB1 := Lib.hid hb1
  have hc0 : w1.cell? ad = some (.int .u8 (b : Int)) := by rw [← HZ.out]; exact (HR.out.keep hb1).cellv 0 (by omega)
  clear hb1
  go_wp2_with fail
  refine (hO _).mono ?_
  rintro e w2 ⟨rfl, hb2⟩
  have HB2 := Lib.hid (HB1.out.trans (hb2.mono HB1.out.size))
  clear hb2
  go_wp2_with fail
  go_ret
  exact ⟨rfl, HB2.out.alloc HB2.out.size _⟩
set_option maxHeartbeats 4000000 in
theorem mtext_op (ad : Addr) (n c : Nat) (z : Nat → Int) (a : Int) (a0 : 0 ≤ a) (a1 : a ≤ 65535) (hn : 1 ≤ n) (hnc : n ≤ c) (hs : n ≤ 1099511627776) (h : whB z n = true) (h0 : opM (z 0).toNat ≠ 0) (w : World) (R : IRow w .u8 (some ad) n z) : Calls Tryd.prog 20 #[.slice (some ad) n c, .int .u16 a] w fun e w' => e = .returned (.string (mkS (txU z n a))) ∧ Below w.heap.size w w' := by
  rw [txU_op z n a hn h h0]
  obtain ⟨z0, z1⟩ := R.bd 0 (by omega)
  have hW := mwhole_any ad n c z hn hs w R
  rw [h] at hW
  have hle : szN (z 0) ≤ n := by
    unfold whB at h
    rw [Bool.and_eq_true] at h
    exact of_decide_eq_true h.2
  have hz := szN_eq (z 0)
  obtain ⟨b, hb⟩ : ∃ b : Nat, (z 0) = (b : Int) := ⟨(z 0).toNat, by omega⟩
  have hb2 : b < 256 := by omega
  have hO := fun W => oof_any b hb2 W
  obtain ⟨f1, f2, f3, f4, f5, f6, f7⟩ := op_fin ⟨b, hb2⟩
  dsimp only at f1 f2 f3 f4 f5 f6 f7
  unfold opV at hO
  rw [hb, show ((b : Int)).toNat = b by omega] at h0 hz ⊢
  rw [hb] at hle
  rw [← hz] at hO f3
  have hq := f7 h0
  obtain ⟨k, hk⟩ : ∃ k : Nat, mbP (opM b) = (k : Int) := ⟨(mbP (opM b)).toNat, by omega⟩
  have hsk : szN (b : Int) = k + 1 := by omega
  rw [hsk] at hO hle ⊢
  have hM := fun W (Q : IRow W .u8 (some ⟨ad.block, ad.off + 1, none⟩) k (fun i => z (i + 1))) => mmean_any (opM b) (by omega) f2 k hk.symm ⟨ad.block, ad.off + 1, none⟩ (c - 1) (fun i => z (i + 1)) ((a + (k + 1 : Nat)) % 65536) (by omega) (by omega) (by omega) W Q
  have hol := opdU_len (opM b) (fun i => z (i + 1)) ((a + (k + 1 : Nat)) % 65536)
  have hE : mkS (opN b) ++ ⟨#[32]⟩ ++ mkS (opdU (opM b) (fun i => z (i + 1)) ((a + (k + 1 : Nat)) % 65536)) = mkS (opN b ++ 32 :: opdU (opM b) (fun i => z (i + 1)) ((a + (k + 1 : Nat)) % 65536)) := by
    show mkS (opN b) ++ mkS [32] ++ _ = _
    rw [mkS_cat, mkS_cat, List.append_assoc]
    rfl
  have hM0 : ((opM b : Int) == 0) = false := by simp; omega
  have hM1 : (opM b : Int) ≠ 0 := by omega
  obtain ⟨T, eT⟩ : ∃ T, mkS (opdU (opM b) (fun i => z (i + 1)) ((a + (k + 1 : Nat)) % 65536)) = T := ⟨_, rfl⟩
  have sT : T.size ≤ 17 := by rw [← eT, mkS_size']; exact hol
  obtain ⟨S, eS⟩ : ∃ S, mkS (opN b) = S := ⟨_, rfl⟩
  have sS : S.size ≤ 4 := by rw [← eS, mkS_size']; omega
  rw [eT] at hM hE
  rw [eS] at hO hE
  rw [← hE]
  have ev : IntKind.u16.wrap (a + IntKind.u16.wrap ((k + 1 : Nat) : Int)) = (a + (k + 1 : Nat)) % 65536 := by rw [u16_mod, u16_mod]; omega
  generalize opM b = m at hO hM hM0 hM1 hk
  generalize (opY b : Int) = y at hO
  have HR := Lib.hid R
  have n0 : (0 : Int) < n := by omega
  have n2 : ((n : Int) == 0) = false := by simp; omega
  have HZ := Lib.hid hb
  have c1 : ¬ c = 1 := by omega
  have s1 : (1 : Int) ≤ ((k + 1 : Nat) : Int) := by omega
  have s2 : ((k + 1 : Nat) : Int) ≤ c := by omega
  have s3 : ((k + 1 : Nat) : Int).toNat - 1 = k := by omega
  have n3 : 2 ≤ n := by omega
  have hk6 : k ≤ 6 := by omega
  have hkn : k + 1 ≤ n := hle
  clear R h hb h0 hE eT eS f1 f2 f3 f4 f5 f6 f7 hol hz hq hsk hk hle
  obtain ⟨s, es⟩ : ∃ s : Int, ((k + 1 : Nat) : Int) = s := ⟨_, rfl⟩
  rw [es] at hO hM ev s1 s2 s3
  obtain ⟨v, hv⟩ : ∃ v, (a + s) % 65536 = v := ⟨_, rfl⟩
  rw [hv] at ev hM
  have ES := Lib.hid es
  clear es hv
  go_enter Tryd.func20, Tryd.ntmps20
  go_wp2_with fail
  refine hW.mono ?_
  rintro e w1 ⟨rfl, hb1⟩
  have HB1 := Lib.hid hb1
  have hc0 : w1.cell? ad = some (.int .u8 (b : Int)) := by rw [← HZ.out]; exact (HR.out.keep hb1).cellv 0 (by omega)
  clear hb1
  go_wp2_with fail
  refine (hO _).mono ?_
  rintro e w2 ⟨rfl, hb2⟩
  have HB2 := Lib.hid (HB1.out.trans (hb2.mono HB1.out.size))
  clear hb2
  go_wp2_with fail
  have bk := Blk.new w2 48 #[.string S, .int .u8 (m : Int), .int .i64 s, .int .i64 y]
  have HB3 := Lib.hid (HB2.out.alloc HB2.out.size (.cells #[.string S, .int .u8 (m : Int), .int .i64 s, .int .i64 y] 48))
  generalize World.alloc _ _ = w3 at *
  have d0 : w3.cell? ⟨w2.heap.size, 0, none⟩ = some (.string S) := bk.cell 0
  have d1 : w3.cell? ⟨w2.heap.size, 1, none⟩ = some (.int .u8 (m : Int)) := bk.cell 1
  have d2 : w3.cell? ⟨w2.heap.size, 2, none⟩ = some (.int .i64 s) := bk.cell 2
  clear bk
  have HRR := Lib.hid (((HR.out.keep HB3.out).shift 1).first k (by omega))
  have HL0 := Lib.hid (cell_lt d0)
  refine rg_begin (S := fun w' => Below w3.heap.size w3 w' ∧ w'.cell? ⟨w2.heap.size, 0, none⟩ = some (.string S) ∧ w'.cell? ⟨w2.heap.size, 1, none⟩ = some (.int .u8 (m : Int)) ∧ w'.cell? ⟨w2.heap.size, 2, none⟩ = some (.int .i64 s)) 17 #[false, false, false, false, false, false, false, false, false, false, false, false, false, false, false, false, false] (by kernel_rfl) (by kernel_rfl) (by kernel_rfl) ?_ (fun hHeld => ?_)
  · exact ⟨(Below.refl _ w3).drew, d0, d1, d2⟩
  refine rg_take (i := 0) (d := some 27) (l := #[true, false, false, false, false, false, false, false, false, false, false, false, false, false, false, false, false]) (fuel := 16) (v := ?_) rfl (by kernel_rfl) (by kernel_rfl) (by kernel_rfl) (by kernel_rfl) (by kernel_rfl) (fun _ _ _ h => h) (by kernel_rfl) ?_ (by assumption) ?_
  rotate_left 1
  · (intro wS hSw; (try dsimp only at hSw); go_simp; try with_reducible rfl)
  try simp only [Act.put, List.setIfInBounds_toArray, List.set_cons_zero, List.set_cons_succ]
  refine rg_take (i := 1) (d := some 28) (l := #[true, true, false, false, false, false, false, false, false, false, false, false, false, false, false, false, false]) (fuel := 15) (v := ?_) rfl (by kernel_rfl) (by kernel_rfl) (by kernel_rfl) (by kernel_rfl) (by kernel_rfl) (fun _ _ _ h => h) (by kernel_rfl) ?_ (by assumption) ?_
  rotate_left 1
  · (intro wS hSw; (try dsimp only at hSw); go_simp; try with_reducible rfl)
  try simp only [Act.put, List.setIfInBounds_toArray, List.set_cons_zero, List.set_cons_succ]
  refine rg_take (i := 2) (d := some 29) (l := #[true, true, true, false, false, false, false, false, false, false, false, false, false, false, false, false, false]) (fuel := 14) (v := .string (S ++ ⟨#[32]⟩)) rfl (by kernel_rfl) (by kernel_rfl) (by kernel_rfl) (by kernel_rfl) (by kernel_rfl) (fun _ _ _ h => h) (by kernel_rfl) ?_ (by assumption) ?_
  · (intro wS hSw; (try dsimp only at hSw); (go_simp; first | omega | (rw [ByteArray.size_append]; have q : (⟨#[32]⟩ : ByteArray).size = 1 := rfl; omega)))
  try simp only [Act.put, List.setIfInBounds_toArray, List.set_cons_zero, List.set_cons_succ]
  refine rg_take (i := 3) (d := some 30) (l := #[true, true, true, true, false, false, false, false, false, false, false, false, false, false, false, false, false]) (fuel := 13) (v := ?_) rfl (by kernel_rfl) (by kernel_rfl) (by kernel_rfl) (by kernel_rfl) (by kernel_rfl) (fun _ _ _ h => h) (by kernel_rfl) ?_ (by assumption) ?_
  rotate_left 1
  · (intro wS hSw; (try dsimp only at hSw); go_simp; try with_reducible rfl)
  try simp only [Act.put, List.setIfInBounds_toArray, List.set_cons_zero, List.set_cons_succ]
  refine rg_take (i := 4) (d := some 31) (l := #[true, true, true, true, true, false, false, false, false, false, false, false, false, false, false, false, false]) (fuel := 12) (v := ?_) rfl (by kernel_rfl) (by kernel_rfl) (by kernel_rfl) (by kernel_rfl) (by kernel_rfl) (fun _ _ _ h => h) (by kernel_rfl) ?_ (by assumption) ?_
  rotate_left 1
  · (intro wS hSw; (try dsimp only at hSw); go_simp; try with_reducible rfl)
  try simp only [Act.put, List.setIfInBounds_toArray, List.set_cons_zero, List.set_cons_succ]
  refine rg_take (i := 5) (d := some 32) (l := #[true, true, true, true, true, true, false, false, false, false, false, false, false, false, false, false, false]) (fuel := 11) (v := ?_) rfl (by kernel_rfl) (by kernel_rfl) (by kernel_rfl) (by kernel_rfl) (by kernel_rfl) (fun _ _ _ h => h) (by kernel_rfl) ?_ (by assumption) ?_
  rotate_left 1
  · (intro wS hSw; (try dsimp only at hSw); go_simp; try with_reducible rfl)
  try simp only [Act.put, List.setIfInBounds_toArray, List.set_cons_zero, List.set_cons_succ]
  refine rg_take (i := 6) (d := some 33) (l := #[true, true, true, true, true, true, true, false, false, false, false, false, false, false, false, false, false]) (fuel := 10) (v := ?_) rfl (by kernel_rfl) (by kernel_rfl) (by kernel_rfl) (by kernel_rfl) (by kernel_rfl) (fun _ _ _ h => h) (by kernel_rfl) ?_ (by assumption) ?_
  rotate_left 1
  · (intro wS hSw; (try dsimp only at hSw); go_simp; try with_reducible rfl)
  try simp only [Act.put, List.setIfInBounds_toArray, List.set_cons_zero, List.set_cons_succ]
  refine rg_take (i := 7) (d := some 34) (l := #[true, true, true, true, true, true, true, true, false, false, false, false, false, false, false, false, false]) (fuel := 9) (v := ?_) rfl (by kernel_rfl) (by kernel_rfl) (by kernel_rfl) (by kernel_rfl) (by kernel_rfl) (fun _ _ _ h => h) (by kernel_rfl) ?_ (by assumption) ?_
  rotate_left 1
  · (intro wS hSw; (try dsimp only at hSw); go_simp; try with_reducible rfl)
  try simp only [Act.put, List.setIfInBounds_toArray, List.set_cons_zero, List.set_cons_succ]
  refine rg_take (i := 8) (d := some 35) (l := #[true, true, true, true, true, true, true, true, true, false, false, false, false, false, false, false, false]) (fuel := 8) (v := ?_) rfl (by kernel_rfl) (by kernel_rfl) (by kernel_rfl) (by kernel_rfl) (by kernel_rfl) (fun _ _ _ h => h) (by kernel_rfl) ?_ (by assumption) ?_
  rotate_left 1
  · (intro wS hSw; (try dsimp only at hSw); go_simp; try with_reducible rfl)
  try simp only [Act.put, List.setIfInBounds_toArray, List.set_cons_zero, List.set_cons_succ]
  refine rg_take (i := 9) (d := some 36) (l := #[true, true, true, true, true, true, true, true, true, true, false, false, false, false, false, false, false]) (fuel := 7) (v := ?_) rfl (by kernel_rfl) (by kernel_rfl) (by kernel_rfl) (by kernel_rfl) (by kernel_rfl) (fun _ _ _ h => h) (by kernel_rfl) ?_ (by assumption) ?_
  rotate_left 1
  · (intro wS hSw; (try dsimp only at hSw); go_simp; try with_reducible rfl)
  try simp only [Act.put, List.setIfInBounds_toArray, List.set_cons_zero, List.set_cons_succ]
  refine rg_take (i := 10) (d := some 37) (l := #[true, true, true, true, true, true, true, true, true, true, true, false, false, false, false, false, false]) (fuel := 6) (v := ?_) rfl (by kernel_rfl) (by kernel_rfl) (by kernel_rfl) (by kernel_rfl) (by kernel_rfl) (fun _ _ _ h => h) (by kernel_rfl) ?_ (by assumption) ?_
  rotate_left 1
  · (intro wS hSw; (try dsimp only at hSw); go_simp; try with_reducible rfl)
  try simp only [Act.put, List.setIfInBounds_toArray, List.set_cons_zero, List.set_cons_succ]
  refine rg_take (i := 11) (d := some 38) (l := #[true, true, true, true, true, true, true, true, true, true, true, true, false, false, false, false, false]) (fuel := 5) (v := ?_) rfl (by kernel_rfl) (by kernel_rfl) (by kernel_rfl) (by kernel_rfl) (by kernel_rfl) (fun _ _ _ h => h) (by kernel_rfl) ?_ (by assumption) ?_
  rotate_left 1
  · (intro wS hSw; (try dsimp only at hSw); go_simp; try with_reducible rfl)
  try simp only [Act.put, List.setIfInBounds_toArray, List.set_cons_zero, List.set_cons_succ]
  refine rg_take (i := 12) (d := some 39) (l := #[true, true, true, true, true, true, true, true, true, true, true, true, true, false, false, false, false]) (fuel := 4) (v := ?_) rfl (by kernel_rfl) (by kernel_rfl) (by kernel_rfl) (by kernel_rfl) (by kernel_rfl) (fun _ _ _ h => h) (by kernel_rfl) ?_ (by assumption) ?_
  rotate_left 1
  · (intro wS hSw; (try dsimp only at hSw); go_simp; try with_reducible rfl)
  try simp only [Act.put, List.setIfInBounds_toArray, List.set_cons_zero, List.set_cons_succ]
  refine rg_take (i := 13) (d := some 40) (l := #[true, true, true, true, true, true, true, true, true, true, true, true, true, true, false, false, false]) (fuel := 3) (v := ?_) rfl (by kernel_rfl) (by kernel_rfl) (by kernel_rfl) (by kernel_rfl) (by kernel_rfl) (fun _ _ _ h => h) (by kernel_rfl) ?_ (by assumption) ?_
  rotate_left 1
  · (intro wS hSw; (try dsimp only at hSw); go_simp; try with_reducible rfl)
  try simp only [Act.put, List.setIfInBounds_toArray, List.set_cons_zero, List.set_cons_succ]
  refine rg_next (i := 14) (l := #[true, true, true, true, true, true, true, true, true, true, true, true, true, true, true, false, false]) (fuel := 2) (by kernel_rfl) rfl (by kernel_rfl) (by kernel_rfl) (fun K hK => ?_)
  go_simp
  (go_at_call 40)
  refine (hM _ (HRR.out.keep hHeld.1)).mono ?_
  rintro e w4 ⟨rfl, b2⟩
  first | (refine hK.out _ _ ?_ (fun hHeld => ?_)) | (go_wp2_with fail; refine hK.out _ _ ?_ (fun hHeld => ?_))
  · (try dsimp only); exact ⟨hHeld.1.trans (b2.mono hHeld.1.size), (b2.cell (by exact cell_lt hHeld.2.1)).trans hHeld.2.1, (b2.cell (by exact cell_lt hHeld.2.2.1)).trans hHeld.2.2.1, (b2.cell (by exact cell_lt hHeld.2.2.2)).trans hHeld.2.2.2⟩
  clear hK K
  try simp only [Act.put, List.setIfInBounds_toArray, List.set_cons_zero, List.set_cons_succ]
  refine rg_take (i := 15) (d := some 42) (l := #[true, true, true, true, true, true, true, true, true, true, true, true, true, true, true, true, false]) (fuel := 1) (v := .string (S ++ ⟨#[32]⟩ ++ T)) rfl (by kernel_rfl) (by kernel_rfl) (by kernel_rfl) (by kernel_rfl) (by kernel_rfl) (fun _ _ _ h => h) (by kernel_rfl) ?_ (by assumption) ?_
  · (intro wS hSw; (try dsimp only at hSw); (go_simp; first | omega | (rw [ByteArray.size_append]; have q : (⟨#[32]⟩ : ByteArray).size = 1 := rfl; omega)))
  try simp only [Act.put, List.setIfInBounds_toArray, List.set_cons_zero, List.set_cons_succ]
  refine rg_take (i := 16) (d := some 4) (l := #[true, true, true, true, true, true, true, true, true, true, true, true, true, true, true, true, true]) (fuel := 0) (v := ?_) rfl (by kernel_rfl) (by kernel_rfl) (by kernel_rfl) (by kernel_rfl) (by kernel_rfl) (fun _ _ _ h => h) (by kernel_rfl) ?_ (by assumption) ?_
  rotate_left 1
  · (intro wS hSw; (try dsimp only at hSw); go_simp; try with_reducible rfl)
  try simp only [Act.put, List.setIfInBounds_toArray, List.set_cons_zero, List.set_cons_succ]
  refine wpAnyH_done (by kernel_rfl) ?_ _
  go_wp2_with fail
  go_ret
  exact ⟨rfl, HB3.out.trans (hHeld.1.mono HB3.out.size)⟩
end Go.Proofs.YtdhnnegigjjoeaaDoor
namespace Go.Proofs.YtdhnnegigjjoeaaDoor
open Go.RowKit
set_option linter.unusedVariables false
set_option linter.unusedSimpArgs false
set_option maxRecDepth 100000
theorem mtext_any (A : Option Addr) (n c : Nat) (z : Nat → Int) (a : Int) (a0 : 0 ≤ a) (a1 : a ≤ 65535) (hnc : n ≤ c) (hs : n ≤ 1099511627776) (w : World) (R : IRow w .u8 A n z) : Calls Tryd.prog 20 #[.slice A n c, .int .u16 a] w fun e w' => e = .returned (.string (mkS (txU z n a))) ∧ Below w.heap.size w w' := by
  by_cases h0 : n = 0
  · subst h0; exact mtext_0 A c z a w
  · obtain ⟨ad, rfl⟩ := R.ptr (by omega)
    cases h : whB z n with
    | false => exact mtext_no ad n c z a (by omega) hs h w R
    | true =>
      by_cases h1 : opM (z 0).toNat = 0
      · exact mtext_im ad n c z a (by omega) hs h h1 w R
      · exact mtext_op ad n c z a a0 a1 (by omega) hnc hs h h1 w R
theorem txU_len (z : Nat → Int) (n : Nat) (a : Int) (z0 : n = 0 ∨ (0 ≤ z 0 ∧ z 0 ≤ 255)) : (txU z n a).length ≤ 30 := by
  unfold txU
  split
  · simp
  · split
    · have f := (op_fin ⟨(z 0).toNat, by omega⟩).1
      dsimp only at f
      have := opdU_len (opM (z 0).toNat) (fun i => z (i + 1)) ((a + szN (z 0)) % 65536)
      split
      · omega
      · simp only [List.length_append, List.length_cons]; omega
    · simp [N1_len]
def rtV (z : Nat → Int) (n : Nat) (a : Int) : Value := .tuple #[.string (mkS (txU z n a)), .int .i64 (txZ z n : Int)]
set_option maxHeartbeats 4000000 in
theorem rtext_0 (A : Option Addr) (c : Nat) (z : Nat → Int) (a : Int) (w : World) : Calls Tryd.prog 19 #[.slice A 0 c, .int .u16 a] w fun e w' => e = .returned (rtV z 0 a) ∧ Below w.heap.size w w' := by
  go_enter Tryd.func19, Tryd.ntmps19
  go_wp2
  go_ret2
  exact ⟨rfl, Below.refl _ _⟩
set_option maxHeartbeats 4000000 in
theorem rtext_no (ad : Addr) (n c : Nat) (z : Nat → Int) (a : Int) (hn : 1 ≤ n) (hs : n ≤ 1099511627776) (h : whB z n = false) (w : World) (R : IRow w .u8 (some ad) n z) : Calls Tryd.prog 19 #[.slice (some ad) n c, .int .u16 a] w fun e w' => e = .returned (rtV z n a) ∧ Below w.heap.size w w' := by
  obtain ⟨z0, z1⟩ := R.bd 0 (by omega)
  have eZ : txZ z n = 1 := by unfold txZ; rw [if_neg (by omega), if_neg (by rw [h]; decide)]
  have hS := fun W => rh2_any (z 0) z0 z1 W
  have hE := mkS_cat [46, 98, 121, 116, 101, 32] (N1 (z 0))
  rw [← txU_no z n a hn h] at hE
  obtain ⟨S, eS⟩ : ∃ S, mkS (N1 (z 0)) = S := ⟨_, rfl⟩
  have sS : S.size = 3 := by rw [← eS, mkS_size', N1_len]
  rw [eS] at hS hE
  have hE2 : (.tuple #[.string (mkS [46, 98, 121, 116, 101, 32] ++ S), .int .i64 1] : Value) = rtV z n a := by unfold rtV; rw [hE, eZ]; rfl
  have HE := Lib.hid hE2
  have hz := szN_eq (z 0)
  obtain ⟨b, hb⟩ : ∃ b : Nat, (z 0) = (b : Int) := ⟨(z 0).toNat, by omega⟩
  have hO := fun W => rof_any b (by omega) W
  unfold rV at hO
  unfold whB at h
  rw [hb] at h hS hz
  rw [show ((b : Int)).toNat = b by omega] at h hz
  rw [← hz] at hO
  obtain ⟨s, es⟩ : ∃ s, szN (b : Int) = s := ⟨_, rfl⟩
  obtain ⟨k, ek⟩ : ∃ k, opK b = k := ⟨_, rfl⟩
  rw [es, ek] at h
  rw [es, ek] at hO
  generalize mkS (opN b) = X at hO
  generalize (opM b : Int) = m at hO
  generalize (opY b : Int) = y at hO
  have hc0 : w.cell? ad = some (.int .u8 (b : Int)) := by rw [← hb]; exact R.cellv 0 (by omega)
  have HR := Lib.hid R
  have n0 : (0 : Int) < n := by omega
  have n2 : ((n : Int) == 0) = false := by simp; omega
  have HZ := Lib.hid hb
  clear R hE hE2 eS hb hz es ek eZ
  cases k with
  | false =>
    clear h
    go_enter Tryd.func19, Tryd.ntmps19
    go_wp2_with fail
    refine (hO _).mono ?_
    rintro e w1 ⟨rfl, hb1⟩
    have HB1 := Lib.hid hb1
    have HR1 := Lib.hid (HR.out.keep hb1)
    clear hb1
    have hc2 : (w1.alloc (.cells #[.string X, .int .u8 m, .int .i64 s, .int .i64 y, .bool false] 56)).cell? ad = some (.int .u8 (b : Int)) := by rw [← HZ.out]; exact (HR1.out.keep ((Below.refl _ _).alloc (Nat.le_refl _) _)).cellv 0 (by omega)
    have HB3 := Lib.hid (HB1.out.alloc HB1.out.size (.cells #[.string X, .int .u8 m, .int .i64 s, .int .i64 y, .bool false] 56))
    clear hc0
    go_wp2_with (go_at_call 36; refine (hS _).mono ?_; rintro e w' ⟨rfl, rfl⟩)
    go_ret2
    exact ⟨congrArg Ending.returned HE.out, HB3.out⟩
  | true =>
    have hgt : (n : Int) < s := by
      rw [Bool.true_and] at h
      have := of_decide_eq_false h
      omega
    have hgt2 : n < s := by omega
    clear h
    go_enter Tryd.func19, Tryd.ntmps19
    go_wp2_with fail
    refine (hO _).mono ?_
    rintro e w1 ⟨rfl, hb1⟩
    have HB1 := Lib.hid hb1
    have HR1 := Lib.hid (HR.out.keep hb1)
    clear hb1
    have hc2 : (w1.alloc (.cells #[.string X, .int .u8 m, .int .i64 s, .int .i64 y, .bool true] 56)).cell? ad = some (.int .u8 (b : Int)) := by rw [← HZ.out]; exact (HR1.out.keep ((Below.refl _ _).alloc (Nat.le_refl _) _)).cellv 0 (by omega)
    have HB3 := Lib.hid (HB1.out.alloc HB1.out.size (.cells #[.string X, .int .u8 m, .int .i64 s, .int .i64 y, .bool true] 56))
    clear hc0
    go_wp2_with (go_at_call 36; refine (hS _).mono ?_; rintro e w' ⟨rfl, rfl⟩)
    go_ret2
    exact ⟨congrArg Ending.returned HE.out, HB3.out⟩
set_option maxHeartbeats 4000000 in
theorem rtext_yes (ad : Addr) (n c : Nat) (z : Nat → Int) (a : Int) (a0 : 0 ≤ a) (a1 : a ≤ 65535) (hn : 1 ≤ n) (hnc : n ≤ c) (hs : n ≤ 1099511627776) (h : whB z n = true) (w : World) (R : IRow w .u8 (some ad) n z) : Calls Tryd.prog 19 #[.slice (some ad) n c, .int .u16 a] w fun e w' => e = .returned (rtV z n a) ∧ Below w.heap.size w w' := by
  obtain ⟨z0, z1⟩ := R.bd 0 (by omega)
  have hle : szN (z 0) ≤ n := by
    unfold whB at h
    rw [Bool.and_eq_true] at h
    exact of_decide_eq_true h.2
  have hkt : opK (z 0).toNat = true := by
    unfold whB at h
    rw [Bool.and_eq_true] at h
    exact h.1
  have eZ : txZ z n = szN (z 0) := by unfold txZ; rw [if_neg (by omega), if_pos h]
  have hz := szN_eq (z 0)
  by_cases h0 : opM (z 0).toNat = 0
  · have hE2 : (.tuple #[.string (mkS (opN (z 0).toNat)), .int .i64 1] : Value) = rtV z n a := by
      obtain ⟨f1, f2, f3, f4, f5, f6, f7⟩ := op_fin ⟨(z 0).toNat, by omega⟩
      dsimp only at f1 f2 f3 f4 f5 f6 f7
      unfold rtV
      rw [txU_im z n a hn h h0, eZ, show szN (z 0) = 1 by have := f6 h0; omega]
      rfl
    have HE := Lib.hid hE2
    obtain ⟨b, hb⟩ : ∃ b : Nat, (z 0) = (b : Int) := ⟨(z 0).toNat, by omega⟩
    have hO := fun W => rof_any b (by omega) W
    unfold rV at hO
    rw [hb] at h0 hz hkt hle HE
    rw [show ((b : Int)).toNat = b by omega] at h0 hz hkt HE
    rw [← hz, hkt, h0] at hO
    obtain ⟨s, es⟩ : ∃ s, szN (b : Int) = s := ⟨_, rfl⟩
    rw [es] at hO hle
    generalize mkS (opN b) = X at hO HE
    generalize (opY b : Int) = y at hO
    have hc0 : w.cell? ad = some (.int .u8 (b : Int)) := by rw [← hb]; exact R.cellv 0 (by omega)
    have n0 : (0 : Int) < n := by omega
    have n2 : ((n : Int) == 0) = false := by simp; omega
    have n3 : ¬ ((n : Int) < s) := by omega
    have n4 : ¬ (n < s) := by omega
    clear R hE2 hb hz es eZ hkt h0 h
    go_enter Tryd.func19, Tryd.ntmps19
    go_wp2_with fail
    refine (hO _).mono ?_
    rintro e w1 ⟨rfl, hb1⟩
    have HB1 := Lib.hid hb1
    clear hb1
    have HB3 := Lib.hid (HB1.out.alloc HB1.out.size (.cells #[.string X, .int .u8 0, .int .i64 s, .int .i64 y, .bool true] 56))
    go_wp2_with fail
    go_ret2
    exact ⟨congrArg Ending.returned HE.out, HB3.out⟩
  · obtain ⟨b, hb⟩ : ∃ b : Nat, (z 0) = (b : Int) := ⟨(z 0).toNat, by omega⟩
    have hb2 : b < 256 := by omega
    have hO := fun W => rof_any b hb2 W
    obtain ⟨f1, f2, f3, f4, f5, f6, f7⟩ := op_fin ⟨b, hb2⟩
    dsimp only at f1 f2 f3 f4 f5 f6 f7
    have hE2 : rtV z n a = .tuple #[.string (mkS (opN b ++ 32 :: opdU (opM b) (fun i => z (i + 1)) ((a + szN (b : Int)) % 65536))), .int .i64 (szN (b : Int))] := by
      unfold rtV
      rw [txU_op z n a hn h h0, eZ, hb, show ((b : Int)).toNat = b by omega]
    unfold rV at hO
    rw [hb] at h0 hz hkt hle
    rw [show ((b : Int)).toNat = b by omega] at h0 hz hkt
    rw [← hz] at hO f3
    rw [hkt] at hO
    have hq := f7 h0
    obtain ⟨k, hk⟩ : ∃ k : Nat, mbP (opM b) = (k : Int) := ⟨(mbP (opM b)).toNat, by omega⟩
    have hsk : szN (b : Int) = k + 1 := by omega
    rw [hsk] at hO hle hE2
    have hM := fun W (Q : IRow W .u8 (some ⟨ad.block, ad.off + 1, none⟩) k (fun i => z (i + 1))) => rop_any (opM b) (by omega) f2 k hk.symm ⟨ad.block, ad.off + 1, none⟩ (c - 1) (fun i => z (i + 1)) ((a + (k + 1 : Nat)) % 65536) (by omega) (by omega) (by omega) W Q
    have hol := opdU_len (opM b) (fun i => z (i + 1)) ((a + (k + 1 : Nat)) % 65536)
    have hE : mkS (opN b) ++ ⟨#[32]⟩ ++ mkS (opdU (opM b) (fun i => z (i + 1)) ((a + (k + 1 : Nat)) % 65536)) = mkS (opN b ++ 32 :: opdU (opM b) (fun i => z (i + 1)) ((a + (k + 1 : Nat)) % 65536)) := by
      show mkS (opN b) ++ mkS [32] ++ _ = _
      rw [mkS_cat, mkS_cat, List.append_assoc]
      rfl
    rw [← hE] at hE2
    have hM0 : ((opM b : Int) == 0) = false := by simp; omega
    have hM1 : (opM b : Int) ≠ 0 := by omega
    obtain ⟨T, eT⟩ : ∃ T, mkS (opdU (opM b) (fun i => z (i + 1)) ((a + (k + 1 : Nat)) % 65536)) = T := ⟨_, rfl⟩
    have sT : T.size ≤ 17 := by rw [← eT, mkS_size']; exact hol
    obtain ⟨S, eS⟩ : ∃ S, mkS (opN b) = S := ⟨_, rfl⟩
    have sS : S.size ≤ 4 := by rw [← eS, mkS_size']; omega
    rw [eT] at hM hE2
    rw [eS] at hO hE2
    have ev : IntKind.u16.wrap (a + IntKind.u16.wrap ((k + 1 : Nat) : Int)) = (a + (k + 1 : Nat)) % 65536 := by rw [u16_mod, u16_mod]; omega
    generalize opM b = m at hO hM hM0 hM1 hk
    generalize (opY b : Int) = y at hO
    have HR := Lib.hid R
    have n0 : (0 : Int) < n := by omega
    have n2 : ((n : Int) == 0) = false := by simp; omega
    have HZ := Lib.hid hb
    have hc0 : w.cell? ad = some (.int .u8 (b : Int)) := by rw [← hb]; exact R.cellv 0 (by omega)
    have c1 : ¬ c = 1 := by omega
    have s1 : (1 : Int) ≤ ((k + 1 : Nat) : Int) := by omega
    have s2 : ((k + 1 : Nat) : Int) ≤ c := by omega
    have s3 : ((k + 1 : Nat) : Int).toNat - 1 = k := by omega
    have s5 : ¬ ((n : Int) < ((k + 1 : Nat) : Int)) := by omega
    have n3 : 2 ≤ n := by omega
    have hk6 : k ≤ 6 := by omega
    have hkn : k + 1 ≤ n := hle
    have HE := Lib.hid hE2
    clear R h hb h0 hE eT eS f1 f2 f3 f4 f5 f6 f7 hol hz hq hsk hk hle hE2 eZ hkt
    obtain ⟨s, es⟩ : ∃ s : Int, ((k + 1 : Nat) : Int) = s := ⟨_, rfl⟩
    rw [es] at hO hM ev s1 s2 s3 s5 HE
    obtain ⟨v, hv⟩ : ∃ v, (a + s) % 65536 = v := ⟨_, rfl⟩
    rw [hv] at ev hM
    have ES := Lib.hid es
    clear es hv
    go_enter Tryd.func19, Tryd.ntmps19
    go_wp2_with fail
    refine (hO _).mono ?_
    rintro e w1 ⟨rfl, hb1⟩
    have HB1 := Lib.hid hb1
    clear hb1
    go_wp2_with fail
    have bk := Blk.new w1 56 #[.string S, .int .u8 (m : Int), .int .i64 s, .int .i64 y, .bool true]
    have HB3 := Lib.hid (HB1.out.alloc HB1.out.size (.cells #[.string S, .int .u8 (m : Int), .int .i64 s, .int .i64 y, .bool true] 56))
    generalize hw3 : World.alloc _ _ = w3 at *
    have d4 : w3.cell? ⟨w1.heap.size, 4, none⟩ = some (.bool true) := bk.cell 4
    have d2 : w3.cell? ⟨w1.heap.size, 2, none⟩ = some (.int .i64 s) := bk.cell 2
    have d1 : w3.cell? ⟨w1.heap.size, 1, none⟩ = some (.int .u8 (m : Int)) := bk.cell 1
    have d0 : w3.cell? ⟨w1.heap.size, 0, none⟩ = some (.string S) := bk.cell 0
    have hM3 := fun d => hM (w3.drewN d) (IRow.drewN (((HR.out.keep HB3.out).shift 1).first k (by omega)) d)
    clear bk hw3 hM3
    go_wp2_with fail
    have HRR := Lib.hid (((HR.out.keep HB3.out).shift 1).first k (by omega))
    refine rg_begin (S := fun w' => Below w3.heap.size w3 w' ∧ w'.cell? ⟨w1.heap.size, 0, none⟩ = some (.string S) ∧ w'.cell? ⟨w1.heap.size, 1, none⟩ = some (.int .u8 (m : Int)) ∧ w'.cell? ⟨w1.heap.size, 2, none⟩ = some (.int .i64 s)) 20 #[false, false, false, false, false, false, false, false, false, false, false, false, false, false, false, false, false, false, false, false] (by kernel_rfl) (by kernel_rfl) (by kernel_rfl) ?_ (fun hHeld => ?_)
    · exact ⟨(Below.refl _ w3).drew, d0, d1, d2⟩
    refine rg_take (i := 0) (d := some 34) (l := #[true, false, false, false, false, false, false, false, false, false, false, false, false, false, false, false, false, false, false, false]) (fuel := 19) (v := ?_) rfl (by kernel_rfl) (by kernel_rfl) (by kernel_rfl) (by kernel_rfl) (by kernel_rfl) (fun _ _ _ h => h) (by kernel_rfl) ?_ (by assumption) ?_
    rotate_left 1
    · (intro wS hSw; (try dsimp only at hSw); go_simp; try with_reducible rfl)
    try simp only [Act.put, List.setIfInBounds_toArray, List.set_cons_zero, List.set_cons_succ]
    refine rg_take (i := 1) (d := some 35) (l := #[true, true, false, false, false, false, false, false, false, false, false, false, false, false, false, false, false, false, false, false]) (fuel := 18) (v := ?_) rfl (by kernel_rfl) (by kernel_rfl) (by kernel_rfl) (by kernel_rfl) (by kernel_rfl) (fun _ _ _ h => h) (by kernel_rfl) ?_ (by assumption) ?_
    rotate_left 1
    · (intro wS hSw; (try dsimp only at hSw); go_simp; try with_reducible rfl)
    try simp only [Act.put, List.setIfInBounds_toArray, List.set_cons_zero, List.set_cons_succ]
    refine rg_take (i := 2) (d := some 36) (l := #[true, true, true, false, false, false, false, false, false, false, false, false, false, false, false, false, false, false, false, false]) (fuel := 17) (v := .string (S ++ ⟨#[32]⟩)) rfl (by kernel_rfl) (by kernel_rfl) (by kernel_rfl) (by kernel_rfl) (by kernel_rfl) (fun _ _ _ h => h) (by kernel_rfl) ?_ (by assumption) ?_
    · (intro wS hSw; (try dsimp only at hSw); (go_simp; first | omega | (rw [ByteArray.size_append]; have q : (⟨#[32]⟩ : ByteArray).size = 1 := rfl; omega)))
    try simp only [Act.put, List.setIfInBounds_toArray, List.set_cons_zero, List.set_cons_succ]
    refine rg_take (i := 3) (d := some 37) (l := #[true, true, true, true, false, false, false, false, false, false, false, false, false, false, false, false, false, false, false, false]) (fuel := 16) (v := ?_) rfl (by kernel_rfl) (by kernel_rfl) (by kernel_rfl) (by kernel_rfl) (by kernel_rfl) (fun _ _ _ h => h) (by kernel_rfl) ?_ (by assumption) ?_
    rotate_left 1
    · (intro wS hSw; (try dsimp only at hSw); go_simp; try with_reducible rfl)
    try simp only [Act.put, List.setIfInBounds_toArray, List.set_cons_zero, List.set_cons_succ]
    refine rg_take (i := 4) (d := some 38) (l := #[true, true, true, true, true, false, false, false, false, false, false, false, false, false, false, false, false, false, false, false]) (fuel := 15) (v := ?_) rfl (by kernel_rfl) (by kernel_rfl) (by kernel_rfl) (by kernel_rfl) (by kernel_rfl) (fun _ _ _ h => h) (by kernel_rfl) ?_ (by assumption) ?_
    rotate_left 1
    · (intro wS hSw; (try dsimp only at hSw); go_simp; try with_reducible rfl)
    try simp only [Act.put, List.setIfInBounds_toArray, List.set_cons_zero, List.set_cons_succ]
    refine rg_take (i := 5) (d := some 39) (l := #[true, true, true, true, true, true, false, false, false, false, false, false, false, false, false, false, false, false, false, false]) (fuel := 14) (v := ?_) rfl (by kernel_rfl) (by kernel_rfl) (by kernel_rfl) (by kernel_rfl) (by kernel_rfl) (fun _ _ _ h => h) (by kernel_rfl) ?_ (by assumption) ?_
    rotate_left 1
    · (intro wS hSw; (try dsimp only at hSw); go_simp; try with_reducible rfl)
    try simp only [Act.put, List.setIfInBounds_toArray, List.set_cons_zero, List.set_cons_succ]
    refine rg_take (i := 6) (d := some 40) (l := #[true, true, true, true, true, true, true, false, false, false, false, false, false, false, false, false, false, false, false, false]) (fuel := 13) (v := ?_) rfl (by kernel_rfl) (by kernel_rfl) (by kernel_rfl) (by kernel_rfl) (by kernel_rfl) (fun _ _ _ h => h) (by kernel_rfl) ?_ (by assumption) ?_
    rotate_left 1
    · (intro wS hSw; (try dsimp only at hSw); go_simp; try with_reducible rfl)
    try simp only [Act.put, List.setIfInBounds_toArray, List.set_cons_zero, List.set_cons_succ]
    refine rg_take (i := 7) (d := some 41) (l := #[true, true, true, true, true, true, true, true, false, false, false, false, false, false, false, false, false, false, false, false]) (fuel := 12) (v := ?_) rfl (by kernel_rfl) (by kernel_rfl) (by kernel_rfl) (by kernel_rfl) (by kernel_rfl) (fun _ _ _ h => h) (by kernel_rfl) ?_ (by assumption) ?_
    rotate_left 1
    · (intro wS hSw; (try dsimp only at hSw); go_simp; try with_reducible rfl)
    try simp only [Act.put, List.setIfInBounds_toArray, List.set_cons_zero, List.set_cons_succ]
    refine rg_take (i := 8) (d := some 42) (l := #[true, true, true, true, true, true, true, true, true, false, false, false, false, false, false, false, false, false, false, false]) (fuel := 11) (v := ?_) rfl (by kernel_rfl) (by kernel_rfl) (by kernel_rfl) (by kernel_rfl) (by kernel_rfl) (fun _ _ _ h => h) (by kernel_rfl) ?_ (by assumption) ?_
    rotate_left 1
    · (intro wS hSw; (try dsimp only at hSw); go_simp; try with_reducible rfl)
    try simp only [Act.put, List.setIfInBounds_toArray, List.set_cons_zero, List.set_cons_succ]
    refine rg_take (i := 9) (d := some 43) (l := #[true, true, true, true, true, true, true, true, true, true, false, false, false, false, false, false, false, false, false, false]) (fuel := 10) (v := ?_) rfl (by kernel_rfl) (by kernel_rfl) (by kernel_rfl) (by kernel_rfl) (by kernel_rfl) (fun _ _ _ h => h) (by kernel_rfl) ?_ (by assumption) ?_
    rotate_left 1
    · (intro wS hSw; (try dsimp only at hSw); go_simp; try with_reducible rfl)
    try simp only [Act.put, List.setIfInBounds_toArray, List.set_cons_zero, List.set_cons_succ]
    refine rg_take (i := 10) (d := some 44) (l := #[true, true, true, true, true, true, true, true, true, true, true, false, false, false, false, false, false, false, false, false]) (fuel := 9) (v := ?_) rfl (by kernel_rfl) (by kernel_rfl) (by kernel_rfl) (by kernel_rfl) (by kernel_rfl) (fun _ _ _ h => h) (by kernel_rfl) ?_ (by assumption) ?_
    rotate_left 1
    · (intro wS hSw; (try dsimp only at hSw); go_simp; try with_reducible rfl)
    try simp only [Act.put, List.setIfInBounds_toArray, List.set_cons_zero, List.set_cons_succ]
    refine rg_take (i := 11) (d := some 45) (l := #[true, true, true, true, true, true, true, true, true, true, true, true, false, false, false, false, false, false, false, false]) (fuel := 8) (v := ?_) rfl (by kernel_rfl) (by kernel_rfl) (by kernel_rfl) (by kernel_rfl) (by kernel_rfl) (fun _ _ _ h => h) (by kernel_rfl) ?_ (by assumption) ?_
    rotate_left 1
    · (intro wS hSw; (try dsimp only at hSw); go_simp; try with_reducible rfl)
    try simp only [Act.put, List.setIfInBounds_toArray, List.set_cons_zero, List.set_cons_succ]
    refine rg_take (i := 12) (d := some 46) (l := #[true, true, true, true, true, true, true, true, true, true, true, true, true, false, false, false, false, false, false, false]) (fuel := 7) (v := ?_) rfl (by kernel_rfl) (by kernel_rfl) (by kernel_rfl) (by kernel_rfl) (by kernel_rfl) (fun _ _ _ h => h) (by kernel_rfl) ?_ (by assumption) ?_
    rotate_left 1
    · (intro wS hSw; (try dsimp only at hSw); go_simp; try with_reducible rfl)
    try simp only [Act.put, List.setIfInBounds_toArray, List.set_cons_zero, List.set_cons_succ]
    refine rg_take (i := 13) (d := some 47) (l := #[true, true, true, true, true, true, true, true, true, true, true, true, true, true, false, false, false, false, false, false]) (fuel := 6) (v := ?_) rfl (by kernel_rfl) (by kernel_rfl) (by kernel_rfl) (by kernel_rfl) (by kernel_rfl) (fun _ _ _ h => h) (by kernel_rfl) ?_ (by assumption) ?_
    rotate_left 1
    · (intro wS hSw; (try dsimp only at hSw); go_simp; try with_reducible rfl)
    try simp only [Act.put, List.setIfInBounds_toArray, List.set_cons_zero, List.set_cons_succ]
    refine rg_take (i := 16) (d := some 50) (l := #[true, true, true, true, true, true, true, true, true, true, true, true, true, true, false, false, true, false, false, false]) (fuel := 5) (v := ?_) rfl (by kernel_rfl) (by kernel_rfl) (by kernel_rfl) (by kernel_rfl) (by kernel_rfl) (fun _ _ _ h => h) (by kernel_rfl) ?_ (by assumption) ?_
    rotate_left 1
    · (intro wS hSw; (try dsimp only at hSw); go_simp; try with_reducible rfl)
    try simp only [Act.put, List.setIfInBounds_toArray, List.set_cons_zero, List.set_cons_succ]
    refine rg_take (i := 17) (d := some 51) (l := #[true, true, true, true, true, true, true, true, true, true, true, true, true, true, false, false, true, true, false, false]) (fuel := 4) (v := ?_) rfl (by kernel_rfl) (by kernel_rfl) (by kernel_rfl) (by kernel_rfl) (by kernel_rfl) (fun _ _ _ h => h) (by kernel_rfl) ?_ (by assumption) ?_
    rotate_left 1
    · (intro wS hSw; (try dsimp only at hSw); go_simp; try with_reducible rfl)
    try simp only [Act.put, List.setIfInBounds_toArray, List.set_cons_zero, List.set_cons_succ]
    refine rg_next (i := 14) (l := #[true, true, true, true, true, true, true, true, true, true, true, true, true, true, true, false, true, true, false, false]) (fuel := 3) (by kernel_rfl) rfl (by kernel_rfl) (by kernel_rfl) (fun K hK => ?_)
    go_simp
    (go_at_call 37)
    refine (hM _ (HRR.out.keep hHeld.1)).mono ?_
    rintro e w4 ⟨rfl, ⟨d, rfl⟩⟩
    first | (refine hK.out _ _ ?_ (fun hHeld => ?_)) | (go_wp2_with fail; refine hK.out _ _ ?_ (fun hHeld => ?_))
    · (try dsimp only); exact ⟨below_drewN hHeld.1 _, hHeld.2⟩
    clear hK K
    try simp only [Act.put, List.setIfInBounds_toArray, List.set_cons_zero, List.set_cons_succ]
    refine rg_take (i := 15) (d := some 49) (l := #[true, true, true, true, true, true, true, true, true, true, true, true, true, true, true, true, true, true, false, false]) (fuel := 2) (v := .string (S ++ ⟨#[32]⟩ ++ T)) rfl (by kernel_rfl) (by kernel_rfl) (by kernel_rfl) (by kernel_rfl) (by kernel_rfl) (fun _ _ _ h => h) (by kernel_rfl) ?_ (by assumption) ?_
    · (intro wS hSw; (try dsimp only at hSw); (go_simp; first | omega | (rw [ByteArray.size_append]; have q : (⟨#[32]⟩ : ByteArray).size = 1 := rfl; omega)))
    try simp only [Act.put, List.setIfInBounds_toArray, List.set_cons_zero, List.set_cons_succ]
    refine rg_take (i := 18) (d := some 4) (l := #[true, true, true, true, true, true, true, true, true, true, true, true, true, true, true, true, true, true, true, false]) (fuel := 1) (v := ?_) rfl (by kernel_rfl) (by kernel_rfl) (by kernel_rfl) (by kernel_rfl) (by kernel_rfl) (fun _ _ _ h => h) (by kernel_rfl) ?_ (by assumption) ?_
    rotate_left 1
    · (intro wS hSw; (try dsimp only at hSw); go_simp; try with_reducible rfl)
    try simp only [Act.put, List.setIfInBounds_toArray, List.set_cons_zero, List.set_cons_succ]
    refine rg_take (i := 19) (d := some 5) (l := #[true, true, true, true, true, true, true, true, true, true, true, true, true, true, true, true, true, true, true, true]) (fuel := 0) (v := ?_) rfl (by kernel_rfl) (by kernel_rfl) (by kernel_rfl) (by kernel_rfl) (by kernel_rfl) (fun _ _ _ h => h) (by kernel_rfl) ?_ (by assumption) ?_
    rotate_left 1
    · (intro wS hSw; (try dsimp only at hSw); go_simp; try with_reducible rfl)
    try simp only [Act.put, List.setIfInBounds_toArray, List.set_cons_zero, List.set_cons_succ]
    refine wpAnyH_done (by kernel_rfl) ?_ _
    go_wp2_with fail
    go_ret2
    exact ⟨congrArg Ending.returned HE.out.symm, HB3.out.trans (hHeld.1.mono HB3.out.size)⟩
end Go.Proofs.YtdhnnegigjjoeaaDoor
namespace Go.Proofs.YtdhnnegigjjoeaaDoor
open Go.RowKit
set_option linter.unusedVariables false
set_option linter.unusedSimpArgs false
set_option maxRecDepth 100000
theorem txZ_bd (z : Nat → Int) (n : Nat) (hn : 1 ≤ n) : 1 ≤ txZ z n ∧ txZ z n ≤ n := by
  unfold txZ
  rw [if_neg (by omega)]
  split
  · rename_i h
    unfold whB at h
    rw [Bool.and_eq_true] at h
    have := of_decide_eq_true h.2
    have := szN_bd (z 0)
    omega
  · omega
/-- Where the lines' instructions begin. -/
def lposN (z : Nat → Int) (n : Nat) : Nat → Nat
  | 0 => 0
  | k + 1 => lposN z n k + txZ (fun i => z (i + lposN z n k)) (n - lposN z n k)
theorem lposN_ge (z : Nat → Int) (n : Nat) : ∀ k, (∀ i, i < k → lposN z n i < n) → k ≤ lposN z n k
  | 0, _ => Nat.zero_le _
  | k + 1, h => by
    have := lposN_ge z n k fun i hi => h i (by omega)
    have h1 := h k (by omega)
    have := (txZ_bd (fun i => z (i + lposN z n k)) (n - lposN z n k) (by omega)).1
    show k + 1 ≤ lposN z n k + _
    omega
/-- A line. -/
def lnU (z : Nat → Int) (n : Nat) (a : Int) (p : Nat) : List UInt8 := hxU ((a + p) % 65536 / 256) ++ hxU ((a + p) % 65536 % 256) ++ [58, 32] ++ txU (fun i => z (i + p)) (n - p) ((a + p) % 65536)
def lnV (z : Nat → Int) (n : Nat) (a : Int) (m : Nat) : List Value := (List.range m).map fun i => .string (mkS (lnU z n a (lposN z n i)))
theorem lnV_len (z : Nat → Int) (n : Nat) (a : Int) (m : Nat) : (lnV z n a m).length = m := by simp [lnV]
theorem lnV_snoc (z : Nat → Int) (n : Nat) (a : Int) (m : Nat) : lnV z n a (m + 1) = lnV z n a m ++ (#[.string (mkS (lnU z n a (lposN z n m)))] : Array Value).toList := by simp [lnV, List.range_succ]
theorem str_inf : (Tryd.prog.info? 9).map (fun i => (i.zero, i.size, i.bytes)) = some (some (.string ⟨#[]⟩), 1, 16) := by kernel_rfl
theorem hex4_any (t : Int) (t0 : 0 ≤ t) (t1 : t ≤ 65535) (w : World) : Calls Tryd.prog 26 #[.int .u32 t, .int .i64 4] w fun e w' => e = .returned (.string (mkS (hxU (t / 256) ++ hxU (t % 256)))) ∧ Below w.heap.size w w' := by
  rw [← str_W2]
  exact hex_4 t w t0 (by omega)
theorem IRow.tail {w : World} {ad : Addr} {q c : Nat} {f : Nat → Int} (R : IRow w .u8 (some ad) q f) (s : Nat) (hc : q ≤ c) : IRow w .u8 (if c = s then some ad else some (ad.add s)) (q - s) (fun i => f (i + s)) := by
  by_cases h : c = s
  · exact fun i hi => by omega
  · rw [if_neg h]; exact R.shift s
def ListR (z : Nat → Int) (n : Nat) (a : Int) (w : World) (e : Ending) (w' : World) : Prop :=
  ∃ v m, e = .returned v ∧ w'.ownsRow w.heap.size 9 1 v m (lnV z n a m) ∧ (∀ i, i < m → lposN z n i < n) ∧ lposN z n m = n ∧ Below w.heap.size w w'
set_option maxHeartbeats 8000000 in
theorem mlisting_any (A : Option Addr) (n c : Nat) (z : Nat → Int) (a : Int) (a0 : 0 ≤ a) (a1 : a ≤ 65535) (hnc : n ≤ c) (hn : n ≤ 1099511627776) (w : World) (R : IRow w .u8 A n z) : Calls Tryd.prog 21 #[.slice A n c, .int .u16 a] w (ListR z n a w) := by
  have HR := Lib.hid R
  clear R
  unfold ListR
  go_enter Tryd.func21, Tryd.ntmps21
  go_wp2
  go_loopw [0, 1, 5] (fun cd t v wr => ∃ (m p : Nat) (A' : Option Addr) (c' : Nat), lposN z n m = p ∧ p ≤ n ∧ cd = .slice A' (n - p) c' ∧ n - p ≤ c' ∧ IRow w .u8 A' (n - p) (fun i => z (i + p)) ∧ t = .int .u16 ((a + p) % 65536) ∧ wr.ownsRow w.heap.size 9 1 v m (lnV z n a m) ∧ (∀ i, i < m → lposN z n i < n) ∧ Below w.heap.size w wr) (fun cd _ _ _ => match cd with | .slice _ k _ => k | _ => 0)
  case atStart => exact ⟨0, 0, A, c, rfl, Nat.zero_le _, by simp, by omega, HR.out, by congr 1; omega, World.ownsRow_nil _ _ _ _, fun i h => by omega, Below.refl _ w⟩
  case round =>
    obtain ⟨m, p, A', c', hp, hpn, rfl, hcc, hrow, rfl, own, hall, hB⟩ := hrel
    have hS := hB.size
    have hpg := lposN_ge z n m hall
    have EP : lposN z n (m + 1) = lposN z n m + txZ (fun i => z (i + lposN z n m)) (n - lposN z n m) := rfl
    have hbd := txZ_bd (fun i => z (i + p)) (n - p)
    have EV := Lib.hid (lnV_snoc z n a m)
    have PL := Lib.hid (lnV_len z n a m)
    rw [hp] at EP EV hpg
    have HP := Lib.hid hp
    have HEP := Lib.hid EP
    have HALL := Lib.hid hall
    have HROW := Lib.hid hrow
    obtain ⟨q, hq⟩ : ∃ q, n - p = q := ⟨_, rfl⟩
    rw [hq] at hbd hcc HROW HEP ⊢
    clear hp EP hall hrow
    by_cases hlt : 0 < q
    · obtain ⟨ad, rfl⟩ := HROW.out.ptr hlt
      obtain ⟨t, ht⟩ : ∃ t, (a + (p : Int)) % 65536 = t := ⟨_, rfl⟩
      have t0 : 0 ≤ t := by omega
      have t1 : t ≤ 65535 := by omega
      rw [ht]
      have hH := fun W => hex4_any t t0 t1 W
      have sX : (mkS (hxU (t / 256) ++ hxU (t % 256))).size = 4 := by rw [mkS_size', List.length_append, hxU_len, hxU_len]
      have hl := txU_len (fun i => z (i + p)) q t (.inr (by have := HROW.out.bd 0 hlt; exact this))
      have eL : mkS (hxU (t / 256) ++ hxU (t % 256)) ++ ⟨#[58, 32]⟩ ++ mkS (txU (fun i => z (i + p)) q t) = mkS (lnU z n a p) := by
        show _ ++ mkS [58, 32] ++ _ = _
        rw [mkS_cat, mkS_cat]
        unfold lnU
        rw [ht, hq]
      have hTx := fun W (Q : IRow W .u8 (some ad) q (fun i => z (i + p))) => mtext_any (some ad) q c' (fun i => z (i + p)) t t0 t1 hcc (by omega) W Q
      obtain ⟨X, hX⟩ : ∃ X, mkS (hxU (t / 256) ++ hxU (t % 256)) = X := ⟨_, rfl⟩
      obtain ⟨T, hT⟩ : ∃ T, mkS (txU (fun i => z (i + p)) q t) = T := ⟨_, rfl⟩
      obtain ⟨L, hL⟩ : ∃ L, mkS (lnU z n a p) = L := ⟨_, rfl⟩
      have sT : T.size ≤ 30 := by rw [← hT, mkS_size']; exact hl
      rw [hX] at hH sX eL
      rw [hT] at hTx eL
      rw [hL] at eL EV
      have hW := fun W (Q : IRow W .u8 (some ad) q (fun i => z (i + p))) => mwhole_any ad q c' (fun i => z (i + p)) hlt (by omega) W Q
      obtain ⟨b, hb⟩ : ∃ b : Nat, (z (0 + p)) = (b : Int) := ⟨(z (0 + p)).toNat, by have := (HROW.out.bd 0 hlt).1; omega⟩
      have hb256 : b < 256 := by have := (HROW.out.bd 0 hlt).2; omega
      have hOf := fun W => oof_any b hb256 W
      have hfl := fun (k : Int) (W : World) => op_field (mkS (opN b)) (opM b : Int) k (opY b : Int) W
      have hz1 := szN_eq (z (0 + p))
      have hsb := szN_bd (z (0 + p))
      rw [hb, show ((b : Int)).toNat = b by omega] at hz1
      unfold opV at hOf
      rw [← hz1] at hOf
      have e4 : IntKind.u32.wrap t = t := IntWalk.u32_in _ (by omega)
      have q0 : (0 : Int) < q := by omega
      have HOWN := Lib.hid own
      have HBr := Lib.hid hB
      have HT := Lib.hid ht
      have HEL := Lib.hid eL
      have HB0 := Lib.hid hb
      clear own hB ht hX hT hL hl eL hz1 hb
      go_wp2_with fail
      refine (hH _).mono ?_
      rintro e w1 ⟨rfl, b1⟩
      have HB1 := Lib.hid (HBr.out.trans (b1.mono hS))
      have HOWN1 := Lib.hid (own_belowG HOWN.out b1)
      clear b1 hH
      go_wp2_with fail
      refine (hTx _ (HROW.out.keep HB1.out)).mono ?_
      rintro e w2 ⟨rfl, b2⟩
      have own2 := own_belowG HOWN1.out b2
      have hB2 : Below w.heap.size w w2 := HB1.out.trans (b2.mono HB1.out.size)
      have hS2 := hB2.size
      clear b2 hTx
      obtain ⟨v', w', hrun, own', gb⟩ := more_new (P := Tryd.prog) (t := 41) (e := 9) (ty := 41) (c := 1) (m := 1) Tryd.underlying41 str_inf rfl (by decide) own2 #[.string (X ++ ⟨#[58, 32]⟩ ++ T)] rfl (fun x hx => by simp at hx; subst hx; rfl) rfl (by omega) (by omega) hS2
      have hB' : Below w.heap.size w w' := (hB2.alloc hS2 (.cells #[.string (X ++ ⟨#[58, 32]⟩ ++ T)] 9)).grown gb (by simp; omega) (fun i h => (own2.lt i h).1)
      have OWN := Lib.hid own'
      have HB' := Lib.hid hB'
      have sXX : (X ++ ⟨#[58, 32]⟩).size = 6 := by rw [ByteArray.size_append, sX]; rfl
      clear own2 hB2 own' gb hB'
      go_wp2_with (at_builtin; refine wpList_append_run rfl (.tmp 10) (.tmp 19) 41 rfl rfl rfl hrun ?_)
      have hbq := hbd hlt
      have hxz : txZ (fun i => z (i + p)) q = if whB (fun i => z (i + p)) q = true then szN (z (0 + p)) else 1 := by unfold txZ; rw [if_neg (by omega)]
      cases hwb : whB (fun i => z (i + p)) q with
      | true =>
        rw [hwb] at hW hxz
        rw [if_pos rfl] at hxz
        rw [hxz] at HEP hbq
        rw [HB0.out] at HEP hbq hsb
        obtain ⟨s, es⟩ : ∃ s, szN (b : Int) = s := ⟨_, rfl⟩
        rw [es] at HEP hbq hsb hOf
        have i1 : (1 : Int) ≤ s := by omega
        have i2 : (s : Int) ≤ q := by omega
        have i3 : (s : Int) ≤ c' := by omega
        have ev : IntKind.u16.wrap (t + IntKind.u16.wrap (s : Int)) = (t + s) % 65536 := by rw [u16_mod, u16_mod]; omega
        have hEA : (t + s) % 65536 = (a + ((p + s : Nat) : Int)) % 65536 := by have := HT.out; omega
        clear hwb hxz es
        refine (hW _ (HROW.out.keep HB'.out)).mono ?_
        rintro e w3 ⟨rfl, b3⟩
        have HB3 := Lib.hid (HB'.out.trans (b3.mono HB'.out.size))
        have HOWN3 := Lib.hid (own_belowG OWN.out b3)
        have hc3 : w3.cell? ad = some (.int .u8 (b : Int)) := by rw [← HB0.out]; exact (HROW.out.keep HB3.out).cellv 0 hlt
        clear b3
        go_wp2_with fail
        refine (hOf _).mono ?_
        rintro e w4 ⟨rfl, b4⟩
        have HB4 := Lib.hid (HB3.out.trans (b4.mono HB3.out.size))
        have HOWN4 := Lib.hid (own_belowG HOWN3.out b4)
        clear b4 hc3
        go_wp2_with fail
        go_roundw
        case rel =>
          refine ⟨m + 1, p + s, _, _, HEP.out, by omega, by rw [show n - (p + s) = q - s by omega], by omega, ?_, congrArg (Value.int .u16) (by have := HT.out; first | omega | (rw [u16_mod]; omega)), by rw [EV.out, ← HEL.out]; exact HOWN4.out, ?_, HB4.out⟩
          · rw [show n - (p + s) = q - s by omega, show (fun i => z (i + (p + s))) = (fun i => z (i + s + p)) by funext i; rw [Nat.add_assoc, Nat.add_comm s p]]
            exact HROW.out.tail s hcc
          · exact fun i hi => (Nat.lt_succ_iff_lt_or_eq.1 hi).elim (HALL.out i) fun e => by subst e; rw [HP.out]; omega
        case measure => simp; omega
      | false =>
        rw [hwb] at hW hxz
        rw [if_neg (by decide)] at hxz
        rw [hxz] at HEP hbq
        have i1 : (1 : Int) ≤ q := by omega
        have i3 : (1 : Int) ≤ c' := by omega
        have ev : IntKind.u16.wrap (t + 1) = (t + 1) % 65536 := by rw [u16_mod]
        have hEA : (t + 1) % 65536 = (a + ((p + 1 : Nat) : Int)) % 65536 := by have := HT.out; omega
        clear hwb hxz
        refine (hW _ (HROW.out.keep HB'.out)).mono ?_
        rintro e w3 ⟨rfl, b3⟩
        have HB3 := Lib.hid (HB'.out.trans (b3.mono HB'.out.size))
        have HOWN3 := Lib.hid (own_belowG OWN.out b3)
        clear b3
        go_wp2_with fail
        go_roundw
        case rel =>
          refine ⟨m + 1, p + 1, _, _, HEP.out, by omega, by rw [show n - (p + 1) = q - 1 by omega], by omega, ?_, congrArg (Value.int .u16) (by have := HT.out; first | omega | (rw [u16_mod]; omega)), by rw [EV.out, ← HEL.out]; exact HOWN3.out, ?_, HB3.out⟩
          · rw [show n - (p + 1) = q - 1 by omega, show (fun i => z (i + (p + 1))) = (fun i => z (i + 1 + p)) by funext i; rw [Nat.add_assoc, Nat.add_comm 1 p]]
            exact HROW.out.tail 1 hcc
          · exact fun i hi => (Nat.lt_succ_iff_lt_or_eq.1 hi).elim (HALL.out i) fun e => by subst e; rw [HP.out]; omega
        case measure => simp; omega
    · have h1 : q = 0 := by omega
      subst h1
      have OWN := Lib.hid own
      have HB2 := Lib.hid hB
      clear own hB
      go_wp2
      go_ret
      refine ⟨_, rfl, ?_⟩
      exact ⟨m, OWN.out, HALL.out, by rw [HP.out]; omega, HB2.out⟩
end Go.Proofs.YtdhnnegigjjoeaaDoor
