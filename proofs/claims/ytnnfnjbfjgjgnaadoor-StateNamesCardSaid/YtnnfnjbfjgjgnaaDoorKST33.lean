/-
  Texts of these proofs, one behind the other: St11, Rst4, St12.
-/
import Derived.Test.YtnnfnjbfjgjgnaaDoorKST32
import Derived.Test.YtnnfnjbfjgjgnaaDoorKST27
import Derived.Deep.QuietTactic
import Derived.BigQuiet
import Derived.Test.YtnnfnjbfjgjgnaaDoorKST12
namespace Go.Proofs.YtnnfnjbfjgjgnaaDoor
open Go.RowKit
set_option linter.unusedVariables false
set_option linter.unusedSimpArgs false
set_option maxRecDepth 100000
/-- What is left of a line behind k registers; what is written of one; what it comes to. -/
def rsB (line : ByteArray) : Nat → ByteArray
  | 0 => line
  | k + 1 => dpB (dpB (rsB line k) (ahN k)) (wrN k)
def ttB (line : ByteArray) (k : Nat) : ByteArray := tkB (dpB (rsB line k) (ahN k)) (wrN k)
def rdV (line : ByteArray) (k : Nat) : Int := nbP k (ttB line k)
theorem rsB_size (line : ByteArray) (k : Nat) : (rsB line k).size ≤ line.size := by
  induction k with
  | zero => exact Nat.le_refl _
  | succ k ih => exact Nat.le_trans (dpB_size _ _) (Nat.le_trans (dpB_size _ _) ih)
theorem rdV_ok (line : ByteArray) : StOk (rdV line) := fun i hi => nbP_bd i _ (tkB_size _ _)
def rdT (line : ByteArray) (q : Nat) : Nat → Int := fun j => if j < q then rdV line j else 0
theorem rdT_set (line : ByteArray) (q : Nat) : (rwA (rdT line q)).setIfInBounds q (.int .u16 (rdV line q)) = rwA (rdT line (q + 1)) := by
  rw [rwA_set]
  exact rwA_congr fun j _ => by
    unfold rdT
    by_cases e : j = q
    · subst e; rw [if_pos rfl, if_pos (by omega)]
    · rw [if_neg e]
      by_cases h : j < q
      · rw [if_pos h, if_pos (by omega)]
      · rw [if_neg h, if_neg (by omega)]
theorem state_new (r : Nat → Int) (W : World) : (storeCells ⟨W.heap.size, 0, none⟩ (stA r).toList).run Tryd.prog (W.alloc (.cells #[.int .u8 0, .int .u8 0, .int .u8 0, .int .u8 0, .int .u8 0, .int .u16 0, .int .u8 0, .int .u8 0, .int .u8 0, .int .u8 0, .int .u8 0, .int .u8 0, .int .u8 0, .int .u8 0, .int .u8 0, .bool false] 25)) = .ok () (W.alloc (.cells (stA r) 25)) := run_storeCells_new (P := Tryd.prog) W 25 #[.int .u8 0, .int .u8 0, .int .u8 0, .int .u8 0, .int .u8 0, .int .u16 0, .int .u8 0, .int .u8 0, .int .u8 0, .int .u8 0, .int .u8 0, .int .u8 0, .int .u8 0, .int .u8 0, .int .u8 0, .bool false] (stA r) (by rw [stA_size]; exact size_state) (by rw [stA_size]; rfl) (by rw [Array.all_eq_true]; intro i hi; exact stA_one r _ (by simp))
def rdR (line : ByteArray) : Nat → Int := if txB (rdV line) 16 = line then rdV line else fun _ => 0
def rdE (line : ByteArray) : Int := if txB (rdV line) 16 = line then 0 else 3
set_option maxHeartbeats 16000000 in
theorem sread_any (line : ByteArray) (hl : line.size ≤ maxLen) {w : World} (hA : AT w) (hF : FT w) : Calls Tryd.prog 14 #[.string line] w fun e w' => e = .returned (.tuple #[.agg (stA (rdR line)), .int .i64 (rdE line)]) ∧ Below w.heap.size w w' := by
  have HA := Lib.hid hA
  have HF := Lib.hid hF
  have HL := Lib.hid hl
  have B2 : Hid (Below w.heap.size w ((w.alloc (.cells #[.int .u8 0, .int .u8 0, .int .u8 0, .int .u8 0, .int .u8 0, .int .u16 0, .int .u8 0, .int .u8 0, .int .u8 0, .int .u8 0, .int .u8 0, .int .u8 0, .int .u8 0, .int .u8 0, .int .u8 0, .bool false] 25)).alloc (.cells #[.int .u16 0, .int .u16 0, .int .u16 0, .int .u16 0, .int .u16 0, .int .u16 0, .int .u16 0, .int .u16 0, .int .u16 0, .int .u16 0, .int .u16 0, .int .u16 0, .int .u16 0, .int .u16 0, .int .u16 0, .int .u16 0] 48))) := Lib.hid (((Below.refl _ w).alloc (Nat.le_refl _) _).alloc (by simp) _)
  have K0 : Hid (Blk ((w.alloc (.cells #[.int .u8 0, .int .u8 0, .int .u8 0, .int .u8 0, .int .u8 0, .int .u16 0, .int .u8 0, .int .u8 0, .int .u8 0, .int .u8 0, .int .u8 0, .int .u8 0, .int .u8 0, .int .u8 0, .int .u8 0, .bool false] 25)).alloc (.cells #[.int .u16 0, .int .u16 0, .int .u16 0, .int .u16 0, .int .u16 0, .int .u16 0, .int .u16 0, .int .u16 0, .int .u16 0, .int .u16 0, .int .u16 0, .int .u16 0, .int .u16 0, .int .u16 0, .int .u16 0, .int .u16 0] 48)) w.heap.size 25 #[.int .u8 0, .int .u8 0, .int .u8 0, .int .u8 0, .int .u8 0, .int .u16 0, .int .u8 0, .int .u8 0, .int .u8 0, .int .u8 0, .int .u8 0, .int .u8 0, .int .u8 0, .int .u8 0, .int .u8 0, .bool false]) := Lib.hid ((Blk.new w _ _).alloc _)
  have K1 : Hid (Blk ((w.alloc (.cells #[.int .u8 0, .int .u8 0, .int .u8 0, .int .u8 0, .int .u8 0, .int .u16 0, .int .u8 0, .int .u8 0, .int .u8 0, .int .u8 0, .int .u8 0, .int .u8 0, .int .u8 0, .int .u8 0, .int .u8 0, .bool false] 25)).alloc (.cells #[.int .u16 0, .int .u16 0, .int .u16 0, .int .u16 0, .int .u16 0, .int .u16 0, .int .u16 0, .int .u16 0, .int .u16 0, .int .u16 0, .int .u16 0, .int .u16 0, .int .u16 0, .int .u16 0, .int .u16 0, .int .u16 0] 48)) (w.heap.size + 1) 48 (rwA (rdT line 0))) := Lib.hid (Blk.new_ (by simp))
  obtain ⟨E, hE⟩ : ∃ E, rdE line = E := ⟨_, rfl⟩
  obtain ⟨X, hX⟩ : ∃ X, stA (rdR line) = X := ⟨_, rfl⟩
  rw [hE, hX]
  have HE := Lib.hid (And.intro hE hX)
  clear hA hF hl hE hX
  go_enter Tryd.func14, Tryd.ntmps14
  go_upto_region 2 with fail
  generalize (w.alloc _).alloc _ = w2 at *
  go_wp2_with fail
  go_loopw [5, 11] (fun v i wr => ∃ k : Nat, k ≤ 16 ∧ i = .int .i64 k ∧ v = .string (rsB line k) ∧ Blk wr (w.heap.size + 1) 48 (rwA (rdT line k)) ∧ Blk wr w.heap.size 25 #[.int .u8 0, .int .u8 0, .int .u8 0, .int .u8 0, .int .u8 0, .int .u16 0, .int .u8 0, .int .u8 0, .int .u8 0, .int .u8 0, .int .u8 0, .int .u8 0, .int .u8 0, .int .u8 0, .int .u8 0, .bool false] ∧ Below w.heap.size w wr) (fun _ i _ => 16 - (intOf i).toNat)
  case atStart => exact ⟨0, by omega, rfl, rfl, K1.out, K0.out, B2.out⟩
  case round =>
    clear K0 K1 B2
    obtain ⟨k, hk, rfl, rfl, h1, h0, hB⟩ := hrel
    by_cases hlt : k < 16
    · have q0 : (0 : Int) ≤ k := by omega
      have q1 : (k : Int) < 16 := by omega
      have ca : wr.cell? ⟨0, k, none⟩ = some (.string (ahS k)) := (HA.out.below hB).2 k hlt
      have s0 := Nat.le_trans (rsB_size line k) HL.out
      have s1 := Nat.le_trans (dpB_size (rsB line k) (ahN k)) s0
      have n1 := ahN_le k
      have n2 := wrN_le k
      have hc1 := fun W => scut_any (rsB line k) (ahN k) (by omega) s0 W
      have hc2 := fun W => scut_any (dpB (rsB line k) (ahN k)) (wrN k) (by omega) s1 W
      have hnb := fun W (h : FT W) => snumber_any h k hlt (ttB line k) (Nat.le_trans (tkB_size _ _) (by omega))
      have hwr := fun W (h : FT W) => swritten_any h k hlt 0 (by omega) (mostP_bd k).1
      have hsz := wrS_size k 0
      have hT2 : ttB line k = tkB (dpB (rsB line k) (ahN k)) (wrN k) := rfl
      have hr2 : rsB line (k + 1) = dpB (dpB (rsB line k) (ahN k)) (wrN k) := rfl
      have h2 := (rdT_set line k) ▸ h1.set_ k (.int .u16 (rdV line k))
      have hrv : rdV line k = nbP k (ttB line k) := rfl
      rw [← hrv] at hnb
      rw [← hr2, ← hT2] at hc2
      have hA2 : (ahS k).size = ahN k := rfl
      obtain ⟨a, ha⟩ : ∃ a, ahS k = a := ⟨_, rfl⟩
      obtain ⟨b, hb⟩ : ∃ b, wrS k 0 = b := ⟨_, rfl⟩
      obtain ⟨na, hna⟩ : ∃ n, ahN k = n := ⟨_, rfl⟩
      obtain ⟨nb, hnb'⟩ : ∃ n, wrN k = n := ⟨_, rfl⟩
      obtain ⟨m, hm⟩ : ∃ m, dpB (rsB line k) (ahN k) = m := ⟨_, rfl⟩
      obtain ⟨u, hu⟩ : ∃ u, tkB (rsB line k) (ahN k) = u := ⟨_, rfl⟩
      rw [hm, hu] at hc1
      rw [hm] at hc2
      obtain ⟨r0, hr0⟩ : ∃ r, rsB line k = r := ⟨_, rfl⟩
      obtain ⟨r1, hr1⟩ : ∃ r, rsB line (k + 1) = r := ⟨_, rfl⟩
      obtain ⟨t, ht⟩ : ∃ t, ttB line k = t := ⟨_, rfl⟩
      obtain ⟨x, hx⟩ : ∃ x, rdV line k = x := ⟨_, rfl⟩
      rw [ha] at ca hA2
      rw [hb] at hwr hsz
      rw [hna] at hA2 hc1
      rw [hnb'] at hsz hc2
      rw [hr0] at hc1
      rw [hr1, ht] at hc2
      rw [ht, hx] at hnb
      rw [hx] at h2
      rw [hr0]
      have cx : wr.cell? ⟨w.heap.size + 1, k, none⟩ = some (.int .u16 (rdT line k k)) := (h1.cell k).trans (rwA_at _ _ hlt)
      have H1 := Lib.hid h1
      have H0 := Lib.hid h0
      have HB := Lib.hid hB
      have HR1 := Lib.hid hr1
      have HX := Lib.hid hx
      have HC1 := Lib.hid hc1
      have HC2 := Lib.hid hc2
      have HN := Lib.hid hnb
      have HW := Lib.hid hwr
      have HSA := Lib.hid hA2
      have HSB := Lib.hid hsz
      clear s0 s1 n1 n2 hc1 hc2 hnb hwr hsz hT2 hr2 h2 hrv hA2 ha hb hna hnb' hm hu hr0 hr1 ht hx cx h1 h0 hB
      go_wp2_with fail
      rw [HSA.out]
      refine (HC1.out _).mono ?_
      rintro e w3 ⟨rfl, b3⟩
      have B3 := Lib.hid (HB.out.trans (b3.mono HB.out.size))
      replace H1 := Lib.hid (H1.out.below b3 H1.out.lt)
      replace H0 := Lib.hid (H0.out.below b3 H0.out.lt)
      clear b3 ca
      go_wp2_with fail
      refine (HW.out _ (HF.out.below B3.out)).mono ?_
      rintro e w4 ⟨rfl, b4⟩
      have B4 := Lib.hid (B3.out.trans (b4.mono B3.out.size))
      replace H1 := Lib.hid (H1.out.below b4 H1.out.lt)
      replace H0 := Lib.hid (H0.out.below b4 H0.out.lt)
      clear b4
      go_wp2_with fail
      rw [HSB.out]
      refine (HC2.out _).mono ?_
      rintro e w5 ⟨rfl, b5⟩
      have B5 := Lib.hid (B4.out.trans (b5.mono B4.out.size))
      replace H1 := Lib.hid (H1.out.below b5 H1.out.lt)
      replace H0 := Lib.hid (H0.out.below b5 H0.out.lt)
      clear b5
      go_wp2_with fail
      refine (HN.out _ (HF.out.below B5.out)).mono ?_
      rintro e w6 ⟨rfl, b6⟩
      have B6 := B5.out.trans (b6.mono B5.out.size)
      have h1 := H1.out.below b6 H1.out.lt
      have h0 := H0.out.below b6 H0.out.lt
      have cx : w6.cell? ⟨w.heap.size + 1, k, none⟩ = some (.int .u16 (rdT line k k)) := (h1.cell k).trans (rwA_at _ _ hlt)
      have fx := h1.frozen k
      have G1 := Lib.hid (h1.set_ k (.int .u16 x))
      have G0 := Lib.hid (h0.far (p := ⟨w.heap.size + 1, k, none⟩) (show w.heap.size ≠ w.heap.size + 1 by omega) (.int .u16 x))
      have GB := Lib.hid (B6.setCell (p := ⟨w.heap.size + 1, k, none⟩) (by show w.heap.size ≤ w.heap.size + 1; omega) (.int .u16 x))
      clear b6 B6 h1 h0
      go_wp2_with fail
      go_roundw
      case rel => exact ⟨k + 1, by omega, by go_num, by rw [HR1.out], by rw [← rdT_set, HX.out]; exact G1.out, G0.out, GB.out⟩
      case measure => simp [intOf]; omega
    · obtain rfl : k = 16 := by omega
      have e16 : rwA (rdT line 16) = rwA (rdV line) := rwA_congr fun j hj => by unfold rdT; rw [if_pos hj]
      rw [e16] at h1
      have hok := rdV_ok line
      have hTx := fun W (a : AT W) (f : FT W) => stext_any (rdV line) hok a f
      have HRE : Hid ((txB (rdV line) 16 = line → E = 0 ∧ X = stA (rdV line)) ∧ (¬ txB (rdV line) 16 = line → E = 3 ∧ X = #[.int .u8 0, .int .u8 0, .int .u8 0, .int .u8 0, .int .u8 0, .int .u16 0, .int .u8 0, .int .u8 0, .int .u8 0, .int .u8 0, .int .u8 0, .int .u8 0, .int .u8 0, .int .u8 0, .int .u8 0, .bool false])) := Lib.hid (by
        constructor
        · intro h; exact ⟨by rw [← HE.out.1]; unfold rdE; rw [if_pos h], by rw [← HE.out.2]; unfold rdR; rw [if_pos h]⟩
        · intro h; exact ⟨by rw [← HE.out.1]; unfold rdE; rw [if_neg h], by rw [← HE.out.2]; unfold rdR; rw [if_neg h]; rfl⟩)
      obtain ⟨T, hT⟩ : ∃ T, txB (rdV line) 16 = T := ⟨_, rfl⟩
      obtain ⟨V, hV⟩ : ∃ V, rdV line = V := ⟨_, rfl⟩
      rw [hT] at hTx HRE
      rw [hV] at hTx HRE h1 hok
      have HTx := Lib.hid hTx
      have HOK := Lib.hid hok
      have hs1 : (Tryd.prog.info? 48).map (·.size) = some (rwA V).size := by rw [rwA_size]; exact size_row
      have HS1 := Lib.hid hs1
      have hs2 : (Tryd.prog.info? 25).map (·.size) = some (stA V).size := by rw [stA_size]; exact size_state
      have HS2 := Lib.hid hs2
      have hsr := rwA_size V
      have hsv := stA_size V
      have H0 := Lib.hid h0
      have HB := Lib.hid hB
      clear e16 hTx hok hT hV hs1 hs2 h0 hB HE hk hlt
      go_wp2_with (refine wpList_load_row rfl 48 (.tmp 4) rfl (w.heap.size + 1) (by rfl) 48 (rwA V) (0, 0) _ h1 Tryd.underlying48 rfl HS1.out ?_)
      refine (sst_any V HOK.out _).mono ?_
      rintro e w3 ⟨rfl, b3⟩
      have hB3 := HB.out.trans (b3.mono HB.out.size)
      have z3 := H0.out.below b3 H0.out.lt
      have hsn := state_new V w3
      have hB4 := hB3.alloc hB3.size (.cells (stA V) 25)
      have k4 : Blk (w3.alloc (.cells (stA V) 25)) w3.heap.size 25 (stA V) := Blk.new w3 _ _
      have z4 := z3.alloc (.cells (stA V) 25)
      have B4 := Lib.hid hB4
      have K4 := Lib.hid k4
      have Z4 := Lib.hid z4
      have hne : w.heap.size ≠ w3.heap.size := by have := z3.lt; omega
      have HNE := Lib.hid hne
      clear b3 hB3 z3 hB4 k4 z4 h1 hne
      go_upto_region 11 with fail
      clear hsn
      generalize World.alloc w3 _ = w4 at *
      generalize w3.heap.size = h at *
      have k4 := K4.out
      go_wp2_with (refine wpList_load_row rfl 25 (.tmp 9) rfl h (by rfl) 25 (stA V) (0, 0) _ k4 Tryd.underlying25 rfl HS2.out ?_)
      refine (HTx.out w4 (HA.out.below B4.out) (HF.out.below B4.out)).mono ?_
      rintro e w5 ⟨rfl, b5⟩
      have B5 := B4.out.trans (b5.mono B4.out.size)
      have k5 := K4.out.below b5 K4.out.lt
      have z5 := Z4.out.below b5 Z4.out.lt
      have HB5 := Lib.hid B5
      clear b5 B5 k4
      by_cases he : T = line
      · have hb : (line.toList == line.toList) = true := ba_eq line
        obtain ⟨hE0, hX0⟩ := HRE.out.1 he
        have HX0 := Lib.hid hX0
        subst he
        subst hE0
        have hst := z5.run_store (P := Tryd.prog) (stA V) rfl (stA_one _)
        have hld := (z5.row (stA V)).run_load (P := Tryd.prog) Tryd.underlying25 rfl size_state
        have HD := Lib.hid hld
        have B6 := Lib.hid (below_setRow HB5.out (show w.heap.size ≤ w.heap.size by omega) (stA V))
        clear hld hX0 z5
        go_wp2_with (refine wpList_load_row rfl 25 (.tmp 9) rfl h (by rfl) 25 (stA V) (0, 0) _ k5 Tryd.underlying25 rfl HS2.out ?_)
        (try simp only [Exit.inBlock, Exit.then])
        refine bodyPost_ret (results_cell_tmp (a := ⟨w.heap.size, 0, none⟩) Tryd.results14 (by rfl) HD.out rfl) rfl ?_
        exact ⟨by rw [HX0.out]; rfl, B6.out⟩
      · have hb : (T.toList == line.toList) = false := ba_ne he
        obtain ⟨hE0, hX0⟩ := HRE.out.2 he
        have HX0 := Lib.hid hX0
        subst hE0
        have c0 : w5.cell? ⟨w.heap.size, 0, none⟩ = some (.int .u8 0) := z5.cell 0
        have f0 : w5.frozen? ⟨w.heap.size, 0, none⟩ = false := z5.frozen 0
        have c1 : w5.cell? ⟨w.heap.size, 1, none⟩ = some (.int .u8 0) := z5.cell 1
        have f1 : w5.frozen? ⟨w.heap.size, 1, none⟩ = false := z5.frozen 1
        have c2 : w5.cell? ⟨w.heap.size, 2, none⟩ = some (.int .u8 0) := z5.cell 2
        have f2 : w5.frozen? ⟨w.heap.size, 2, none⟩ = false := z5.frozen 2
        have c3 : w5.cell? ⟨w.heap.size, 3, none⟩ = some (.int .u8 0) := z5.cell 3
        have f3 : w5.frozen? ⟨w.heap.size, 3, none⟩ = false := z5.frozen 3
        have c4 : w5.cell? ⟨w.heap.size, 4, none⟩ = some (.int .u8 0) := z5.cell 4
        have f4 : w5.frozen? ⟨w.heap.size, 4, none⟩ = false := z5.frozen 4
        have c5 : w5.cell? ⟨w.heap.size, 5, none⟩ = some (.int .u16 0) := z5.cell 5
        have f5 : w5.frozen? ⟨w.heap.size, 5, none⟩ = false := z5.frozen 5
        have c6 : w5.cell? ⟨w.heap.size, 6, none⟩ = some (.int .u8 0) := z5.cell 6
        have f6 : w5.frozen? ⟨w.heap.size, 6, none⟩ = false := z5.frozen 6
        have c7 : w5.cell? ⟨w.heap.size, 7, none⟩ = some (.int .u8 0) := z5.cell 7
        have f7 : w5.frozen? ⟨w.heap.size, 7, none⟩ = false := z5.frozen 7
        have c8 : w5.cell? ⟨w.heap.size, 8, none⟩ = some (.int .u8 0) := z5.cell 8
        have f8 : w5.frozen? ⟨w.heap.size, 8, none⟩ = false := z5.frozen 8
        have c9 : w5.cell? ⟨w.heap.size, 9, none⟩ = some (.int .u8 0) := z5.cell 9
        have f9 : w5.frozen? ⟨w.heap.size, 9, none⟩ = false := z5.frozen 9
        have c10 : w5.cell? ⟨w.heap.size, 10, none⟩ = some (.int .u8 0) := z5.cell 10
        have f10 : w5.frozen? ⟨w.heap.size, 10, none⟩ = false := z5.frozen 10
        have c11 : w5.cell? ⟨w.heap.size, 11, none⟩ = some (.int .u8 0) := z5.cell 11
        have f11 : w5.frozen? ⟨w.heap.size, 11, none⟩ = false := z5.frozen 11
        have c12 : w5.cell? ⟨w.heap.size, 12, none⟩ = some (.int .u8 0) := z5.cell 12
        have f12 : w5.frozen? ⟨w.heap.size, 12, none⟩ = false := z5.frozen 12
        have c13 : w5.cell? ⟨w.heap.size, 13, none⟩ = some (.int .u8 0) := z5.cell 13
        have f13 : w5.frozen? ⟨w.heap.size, 13, none⟩ = false := z5.frozen 13
        have c14 : w5.cell? ⟨w.heap.size, 14, none⟩ = some (.int .u8 0) := z5.cell 14
        have f14 : w5.frozen? ⟨w.heap.size, 14, none⟩ = false := z5.frozen 14
        have c15 : w5.cell? ⟨w.heap.size, 15, none⟩ = some (.bool false) := z5.cell 15
        have f15 : w5.frozen? ⟨w.heap.size, 15, none⟩ = false := z5.frozen 15
        have hld := (z5.zw).run_load (P := Tryd.prog) Tryd.underlying25 rfl size_state
        have HD := Lib.hid hld
        have B6 := Lib.hid (below_zw HB5.out (show w.heap.size ≤ w.heap.size by omega))
        clear hld hX0 z5 k5 he
        go_wp2_with fail
        (try simp only [Exit.inBlock, Exit.then])
        refine bodyPost_ret (results_cell_tmp (a := ⟨w.heap.size, 0, none⟩) Tryd.results14 (by rfl) HD.out rfl) rfl ?_
        exact ⟨by rw [HX0.out]; rfl, B6.out⟩
end Go.Proofs.YtnnfnjbfjgjgnaaDoor
namespace Go.Proofs.YtnnfnjbfjgjgnaaDoor
open Go.RowKit
set_option linter.unusedVariables false
set_option linter.unusedSimpArgs false
set_option maxRecDepth 100000
theorem rsh_any (v : Int) (v0 : 0 ≤ v) (v1 : v ≤ 255) (w : World) : Calls Tryd.prog 36 #[.int .u8 v] w fun e w' => e = .returned (.string (strOfNums (hexL v 2))) ∧ w = w' := by
  have e1 : IntKind.u32.wrap v = v := IntWalk.u32_in _ (by omega)
  go_enter Tryd.func36, Tryd.ntmps36
  go_wp2_with fail
  refine (rhex_any v 2 _ v0 (by omega)).mono ?_
  rintro e w1 ⟨rfl, rfl⟩
  go_wp2_with fail
  go_ret
  exact ⟨rfl, rfl⟩
def hx2 (v : Int) : ByteArray := strOfNums (hexL v 2)
theorem hx2_size (v : Int) : (hx2 v).size = 2 := by unfold hx2; rw [strOf_size, hexL_len]
/-- The first q pages, written. -/
def mB (r : Nat → Int) : Nat → ByteArray
  | 0 => ⟨#[]⟩
  | q + 1 => (if 0 < q then mB r q ++ ⟨#[46]⟩ else mB r q) ++ hx2 (r (6 + q))
theorem mB_size (r : Nat → Int) (q : Nat) : (mB r q).size ≤ 3 * q := by
  induction q with
  | zero => exact Nat.le_refl _
  | succ q ih =>
    simp only [mB]
    have := hx2_size (r (6 + q))
    split
    · rw [ByteArray.size_append, ByteArray.size_append]
      have : (⟨#[46]⟩ : ByteArray).size = 1 := rfl
      omega
    · rw [ByteArray.size_append]; omega
def rtB (r : Nat → Int) : ByteArray :=
  ⟨#[65, 61]⟩ ++ hx2 (r 0) ++ ⟨#[32, 88, 61]⟩ ++ hx2 (r 1) ++ ⟨#[32, 89, 61]⟩ ++ hx2 (r 2) ++ ⟨#[32, 83, 61]⟩ ++ hx2 (r 3) ++ ⟨#[32, 80, 61]⟩ ++ strOfNums (tx (flF (r 4)) 8) ++ ⟨#[32, 80, 67, 61]⟩ ++ strOfNums (hexL (r 5) 4) ++ ⟨#[32, 77, 61]⟩ ++ mB r 8 ++ ⟨#[32, 76, 61]⟩ ++ hx2 (r 14) ++ (if r 15 = 1 then ⟨#[32, 102, 97, 115, 116]⟩ else ⟨#[32, 115, 108, 111, 119]⟩)
theorem stA_le {r : Nat → Int} (hr : StOk r) : (∀ i, i < 16 → i ≠ 5 → 0 ≤ r i ∧ r i ≤ 255) ∧ 0 ≤ r 5 ∧ r 5 ≤ 65535 := ⟨st_le hr, st_pc hr⟩
set_option maxHeartbeats 16000000 in
theorem rstext_any (r : Nat → Int) (hr : StOk r) (w : World) : Calls Tryd.prog 16 #[.agg (stA r)] w fun e w' => e = .returned (.string (rtB r)) ∧ Below w.heap.size w w' := by
  have HR := Lib.hid hr
  have k0 : Blk (w.alloc (.cells (stA r) 25)) w.heap.size 25 (stA r) := Blk.new w _ _
  have b0 : Below w.heap.size w (w.alloc (.cells (stA r) 25)) := (Below.refl _ w).alloc (Nat.le_refl _) _
  have K0 := Lib.hid k0
  have B0 := Lib.hid b0
  clear hr k0 b0
  go_enter Tryd.func16, Tryd.ntmps16
  go_upto_region 1 with fail
  generalize World.alloc w _ = w1 at *
  obtain ⟨g, hg⟩ : ∃ g, w.heap.size = g := ⟨_, rfl⟩
  rw [hg] at K0
  simp only [hg]
  clear hg
  go_wp2_with fail
  go_loopw [3, 4] (fun s i wr => ∃ q : Nat, q ≤ 8 ∧ i = .int .i64 q ∧ s = .string (mB r q) ∧ wr = w1) (fun _ i _ => 8 - (intOf i).toNat)
  case atStart => exact ⟨0, by omega, rfl, rfl, rfl⟩
  case round =>
    obtain ⟨q, hq, rfl, rfl, rfl⟩ := hrel
    by_cases hlt : q < 8
    · have q0 : (0 : Int) ≤ q := by omega
      have q1 : (q : Int) < 8 := by omega
      have cx : wr.cell? ⟨g, 6 + q, none⟩ = some (.int .u8 (r (6 + q))) := (K0.out.cell (6 + q)).trans (stA_at _ _ (by omega) (by omega) (by omega))
      have y := st_le HR.out (6 + q) (by omega) (by omega)
      have hh := rsh_any (r (6 + q)) y.1 y.2 wr
      have sz := mB_size r q
      have hs2 : (strOfNums (hexL (r (6 + q)) 2)).size = 2 := hx2_size _
      have HN : Hid (mB r (q + 1) = (if 0 < q then mB r q ++ ⟨#[46]⟩ else mB r q) ++ strOfNums (hexL (r (6 + q)) 2)) := Lib.hid rfl
      obtain ⟨t, ht⟩ : ∃ t, strOfNums (hexL (r (6 + q)) 2) = t := ⟨_, rfl⟩
      obtain ⟨m, hm⟩ : ∃ t, mB r q = t := ⟨_, rfl⟩
      obtain ⟨x, hx⟩ : ∃ x, r (6 + q) = x := ⟨_, rfl⟩
      rw [ht] at hh hs2 HN
      rw [hm] at sz HN ⊢
      rw [hx] at cx hh
      have HH := Lib.hid hh
      clear ht hm hx hh y
      by_cases hz : q = 0
      · subst hz
        have n1 : ¬ (9223372036854775807 < m.size + t.size) := by omega
        go_wp2_with fail
        refine HH.out.mono ?_
        rintro e w' ⟨rfl, rfl⟩
        go_wp2_with fail
        go_roundw
        case rel => exact ⟨1, by omega, by go_num, by rw [HN.out, if_neg (by omega)], by first | rfl | trivial⟩
        case measure => simp [intOf]
      · have hz2 : (0 : Int) < q := by omega
        have n1 : ¬ (9223372036854775807 < (m ++ (⟨#[46]⟩ : ByteArray)).size + t.size) := by rw [ByteArray.size_append]; have : (⟨#[46]⟩ : ByteArray).size = 1 := rfl; omega
        have HZ := Lib.hid (show 0 < q by omega)
        clear hz
        go_wp2_with fail
        refine HH.out.mono ?_
        rintro e w' ⟨rfl, rfl⟩
        go_wp2_with fail
        go_roundw
        case rel => exact ⟨q + 1, by omega, by go_num, by rw [HN.out, if_pos HZ.out], by first | rfl | trivial⟩
        case measure => simp [intOf]; omega
    · obtain rfl : q = 8 := by omega
      have sz := mB_size r 8
      have y := st_le HR.out
      have c0 : wr.cell? ⟨g, 0, none⟩ = some (.int .u8 (r 0)) := K0.out.cell 0
      have c1 : wr.cell? ⟨g, 1, none⟩ = some (.int .u8 (r 1)) := K0.out.cell 1
      have c2 : wr.cell? ⟨g, 2, none⟩ = some (.int .u8 (r 2)) := K0.out.cell 2
      have c3 : wr.cell? ⟨g, 3, none⟩ = some (.int .u8 (r 3)) := K0.out.cell 3
      have c4 : wr.cell? ⟨g, 4, none⟩ = some (.int .u8 (r 4)) := K0.out.cell 4
      have c5 : wr.cell? ⟨g, 5, none⟩ = some (.int .u16 (r 5)) := K0.out.cell 5
      have c14 : wr.cell? ⟨g, 14, none⟩ = some (.int .u8 (r 14)) := K0.out.cell 14
      have c15 : wr.cell? ⟨g, 15, none⟩ = some (.bool (decide (r 15 = 1))) := K0.out.cell 15
      have h0 := fun W => rsh_any (r 0) (y 0 (by decide) (by decide)).1 (y 0 (by decide) (by decide)).2 W
      have h1 := fun W => rsh_any (r 1) (y 1 (by decide) (by decide)).1 (y 1 (by decide) (by decide)).2 W
      have h2 := fun W => rsh_any (r 2) (y 2 (by decide) (by decide)).1 (y 2 (by decide) (by decide)).2 W
      have h3 := fun W => rsh_any (r 3) (y 3 (by decide) (by decide)).1 (y 3 (by decide) (by decide)).2 W
      have h4 := fun W => rtext_any (r 4) W (y 4 (by decide) (by decide)).1 (y 4 (by decide) (by decide)).2
      have hp := st_pc HR.out
      have h5 := fun W => rhex_any (r 5) 4 W hp.1 (by omega)
      rw [show held8 4 = 4 from rfl] at h5
      have h14 := fun W => rsh_any (r 14) (y 14 (by decide) (by decide)).1 (y 14 (by decide) (by decide)).2 W
      have s0 : (strOfNums (hexL (r 0) 2)).size = 2 := hx2_size _
      have s1 : (strOfNums (hexL (r 1) 2)).size = 2 := hx2_size _
      have s2 : (strOfNums (hexL (r 2) 2)).size = 2 := hx2_size _
      have s3 : (strOfNums (hexL (r 3) 2)).size = 2 := hx2_size _
      have s4 : (strOfNums (tx (flF (r 4)) 8)).size = 8 := by rw [strOf_size, tx_len]
      have s5 : (strOfNums (hexL (r 5) 4)).size = 4 := by rw [strOf_size, hexL_len]
      have s14 : (strOfNums (hexL (r 14) 2)).size = 2 := hx2_size _
      have HT : Hid (rtB r = ⟨#[65, 61]⟩ ++ strOfNums (hexL (r 0) 2) ++ ⟨#[32, 88, 61]⟩ ++ strOfNums (hexL (r 1) 2) ++ ⟨#[32, 89, 61]⟩ ++ strOfNums (hexL (r 2) 2) ++ ⟨#[32, 83, 61]⟩ ++ strOfNums (hexL (r 3) 2) ++ ⟨#[32, 80, 61]⟩ ++ strOfNums (tx (flF (r 4)) 8) ++ ⟨#[32, 80, 67, 61]⟩ ++ strOfNums (hexL (r 5) 4) ++ ⟨#[32, 77, 61]⟩ ++ mB r 8 ++ ⟨#[32, 76, 61]⟩ ++ strOfNums (hexL (r 14) 2) ++ (if r 15 = 1 then ⟨#[32, 102, 97, 115, 116]⟩ else ⟨#[32, 115, 108, 111, 119]⟩)) := Lib.hid rfl
      obtain ⟨t0, e0⟩ : ∃ t, strOfNums (hexL (r 0) 2) = t := ⟨_, rfl⟩
      obtain ⟨t1, e1⟩ : ∃ t, strOfNums (hexL (r 1) 2) = t := ⟨_, rfl⟩
      obtain ⟨t2, e2⟩ : ∃ t, strOfNums (hexL (r 2) 2) = t := ⟨_, rfl⟩
      obtain ⟨t3, e3⟩ : ∃ t, strOfNums (hexL (r 3) 2) = t := ⟨_, rfl⟩
      obtain ⟨t4, e4⟩ : ∃ t, strOfNums (tx (flF (r 4)) 8) = t := ⟨_, rfl⟩
      obtain ⟨t5, e5⟩ : ∃ t, strOfNums (hexL (r 5) 4) = t := ⟨_, rfl⟩
      obtain ⟨t14, e14⟩ : ∃ t, strOfNums (hexL (r 14) 2) = t := ⟨_, rfl⟩
      obtain ⟨m, hm⟩ : ∃ t, mB r 8 = t := ⟨_, rfl⟩
      rw [e0] at h0 s0 HT
      rw [e1] at h1 s1 HT
      rw [e2] at h2 s2 HT
      rw [e3] at h3 s3 HT
      rw [e4] at h4 s4 HT
      rw [e5] at h5 s5 HT
      rw [e14] at h14 s14 HT
      rw [hm] at sz HT ⊢
      have x5 : IntKind.u32.wrap (r 5) = r 5 := IntWalk.u32_in _ (by omega)
      clear e0 e1 e2 e3 e4 e5 e14 hm y hp
      obtain ⟨f, hf⟩ : ∃ f : ByteArray, (if r 15 = 1 then (⟨#[32, 102, 97, 115, 116]⟩ : ByteArray) else ⟨#[32, 115, 108, 111, 119]⟩) = f := ⟨_, rfl⟩
      by_cases hq15 : r 15 = 1
      · have hb : decide (r 15 = 1) = true := by simp [hq15]
        rw [hb] at c15
        rw [if_pos hq15] at HT
        have HS : Hid (wr.drew.cell? ⟨g, 0, none⟩ = some (.int .u8 (r 0)) ∧ wr.drew.cell? ⟨g, 1, none⟩ = some (.int .u8 (r 1)) ∧ wr.drew.cell? ⟨g, 2, none⟩ = some (.int .u8 (r 2)) ∧ wr.drew.cell? ⟨g, 3, none⟩ = some (.int .u8 (r 3)) ∧ wr.drew.cell? ⟨g, 4, none⟩ = some (.int .u8 (r 4)) ∧ wr.drew.cell? ⟨g, 14, none⟩ = some (.int .u8 (r 14)) ∧ wr.drew.cell? ⟨g, 5, none⟩ = some (.int .u16 (r 5))) := Lib.hid ⟨c0, c1, c2, c3, c4, c14, c5⟩
        have l1 : (⟨#[65, 61]⟩ : ByteArray).size = 2 := rfl
        have l2 : (⟨#[32, 88, 61]⟩ : ByteArray).size = 3 := rfl
        have l3 : (⟨#[32, 89, 61]⟩ : ByteArray).size = 3 := rfl
        have l4 : (⟨#[32, 83, 61]⟩ : ByteArray).size = 3 := rfl
        have l5 : (⟨#[32, 80, 61]⟩ : ByteArray).size = 3 := rfl
        have l6 : (⟨#[32, 80, 67, 61]⟩ : ByteArray).size = 4 := rfl
        have l7 : (⟨#[32, 77, 61]⟩ : ByteArray).size = 3 := rfl
        have l8 : (⟨#[32, 76, 61]⟩ : ByteArray).size = 3 := rfl
        have l9 : (⟨#[32, 102, 97, 115, 116]⟩ : ByteArray).size = 5 := rfl
        clear hf hq15 hb
        go_upto_region 11 with fail
        clear c0 c1 c2 c3 c4 c5 c14 c15
        refine rg_begin (S := fun w' => w'.cell? ⟨g, 0, none⟩ = some (.int .u8 (r 0)) ∧ w'.cell? ⟨g, 1, none⟩ = some (.int .u8 (r 1)) ∧ w'.cell? ⟨g, 2, none⟩ = some (.int .u8 (r 2)) ∧ w'.cell? ⟨g, 3, none⟩ = some (.int .u8 (r 3)) ∧ w'.cell? ⟨g, 4, none⟩ = some (.int .u8 (r 4)) ∧ w'.cell? ⟨g, 14, none⟩ = some (.int .u8 (r 14)) ∧ w'.cell? ⟨g, 5, none⟩ = some (.int .u16 (r 5))) 41 #[false, false, false, false, false, false, false, false, false, false, false, false, false, false, false, false, false, false, false, false, false, false, false, false, false, false, false, false, false, false, false, false, false, false, false, false, false, false, false, false, false] (by kernel_rfl) (by kernel_rfl) (by kernel_rfl) ?_ (fun hHeld => ?_)
        · exact HS.out
        refine rg_take (i := 0) (d := some 23) (l := #[true, false, false, false, false, false, false, false, false, false, false, false, false, false, false, false, false, false, false, false, false, false, false, false, false, false, false, false, false, false, false, false, false, false, false, false, false, false, false, false, false]) (fuel := 40) (v := ?_) rfl (by kernel_rfl) (by kernel_rfl) (by kernel_rfl) (by kernel_rfl) (by kernel_rfl) (fun _ _ _ h => h) (by kernel_rfl) ?_ (by assumption) ?_
        rotate_left 1
        · (intro wS hSw; (try dsimp only at hSw); go_simp; try with_reducible rfl)
        try simp only [Act.put, List.setIfInBounds_toArray, List.set_cons_zero, List.set_cons_succ]
        refine rg_take (i := 1) (d := some 24) (l := #[true, true, false, false, false, false, false, false, false, false, false, false, false, false, false, false, false, false, false, false, false, false, false, false, false, false, false, false, false, false, false, false, false, false, false, false, false, false, false, false, false]) (fuel := 39) (v := ?_) rfl (by kernel_rfl) (by kernel_rfl) (by kernel_rfl) (by kernel_rfl) (by kernel_rfl) (fun _ _ _ h => h) (by kernel_rfl) ?_ (by assumption) ?_
        rotate_left 1
        · (intro wS hSw; (try dsimp only at hSw); go_simp; try with_reducible rfl)
        try simp only [Act.put, List.setIfInBounds_toArray, List.set_cons_zero, List.set_cons_succ]
        refine rg_take (i := 5) (d := some 28) (l := #[true, true, false, false, false, true, false, false, false, false, false, false, false, false, false, false, false, false, false, false, false, false, false, false, false, false, false, false, false, false, false, false, false, false, false, false, false, false, false, false, false]) (fuel := 38) (v := ?_) rfl (by kernel_rfl) (by kernel_rfl) (by kernel_rfl) (by kernel_rfl) (by kernel_rfl) (fun _ _ _ h => h) (by kernel_rfl) ?_ (by assumption) ?_
        rotate_left 1
        · (intro wS hSw; (try dsimp only at hSw); go_simp; try with_reducible rfl)
        try simp only [Act.put, List.setIfInBounds_toArray, List.set_cons_zero, List.set_cons_succ]
        refine rg_take (i := 6) (d := some 29) (l := #[true, true, false, false, false, true, true, false, false, false, false, false, false, false, false, false, false, false, false, false, false, false, false, false, false, false, false, false, false, false, false, false, false, false, false, false, false, false, false, false, false]) (fuel := 37) (v := ?_) rfl (by kernel_rfl) (by kernel_rfl) (by kernel_rfl) (by kernel_rfl) (by kernel_rfl) (fun _ _ _ h => h) (by kernel_rfl) ?_ (by assumption) ?_
        rotate_left 1
        · (intro wS hSw; (try dsimp only at hSw); go_simp; try with_reducible rfl)
        try simp only [Act.put, List.setIfInBounds_toArray, List.set_cons_zero, List.set_cons_succ]
        refine rg_take (i := 10) (d := some 33) (l := #[true, true, false, false, false, true, true, false, false, false, true, false, false, false, false, false, false, false, false, false, false, false, false, false, false, false, false, false, false, false, false, false, false, false, false, false, false, false, false, false, false]) (fuel := 36) (v := ?_) rfl (by kernel_rfl) (by kernel_rfl) (by kernel_rfl) (by kernel_rfl) (by kernel_rfl) (fun _ _ _ h => h) (by kernel_rfl) ?_ (by assumption) ?_
        rotate_left 1
        · (intro wS hSw; (try dsimp only at hSw); go_simp; try with_reducible rfl)
        try simp only [Act.put, List.setIfInBounds_toArray, List.set_cons_zero, List.set_cons_succ]
        refine rg_take (i := 11) (d := some 34) (l := #[true, true, false, false, false, true, true, false, false, false, true, true, false, false, false, false, false, false, false, false, false, false, false, false, false, false, false, false, false, false, false, false, false, false, false, false, false, false, false, false, false]) (fuel := 35) (v := ?_) rfl (by kernel_rfl) (by kernel_rfl) (by kernel_rfl) (by kernel_rfl) (by kernel_rfl) (fun _ _ _ h => h) (by kernel_rfl) ?_ (by assumption) ?_
        rotate_left 1
        · (intro wS hSw; (try dsimp only at hSw); go_simp; try with_reducible rfl)
        try simp only [Act.put, List.setIfInBounds_toArray, List.set_cons_zero, List.set_cons_succ]
        refine rg_take (i := 15) (d := some 38) (l := #[true, true, false, false, false, true, true, false, false, false, true, true, false, false, false, true, false, false, false, false, false, false, false, false, false, false, false, false, false, false, false, false, false, false, false, false, false, false, false, false, false]) (fuel := 34) (v := ?_) rfl (by kernel_rfl) (by kernel_rfl) (by kernel_rfl) (by kernel_rfl) (by kernel_rfl) (fun _ _ _ h => h) (by kernel_rfl) ?_ (by assumption) ?_
        rotate_left 1
        · (intro wS hSw; (try dsimp only at hSw); go_simp; try with_reducible rfl)
        try simp only [Act.put, List.setIfInBounds_toArray, List.set_cons_zero, List.set_cons_succ]
        refine rg_take (i := 16) (d := some 39) (l := #[true, true, false, false, false, true, true, false, false, false, true, true, false, false, false, true, true, false, false, false, false, false, false, false, false, false, false, false, false, false, false, false, false, false, false, false, false, false, false, false, false]) (fuel := 33) (v := ?_) rfl (by kernel_rfl) (by kernel_rfl) (by kernel_rfl) (by kernel_rfl) (by kernel_rfl) (fun _ _ _ h => h) (by kernel_rfl) ?_ (by assumption) ?_
        rotate_left 1
        · (intro wS hSw; (try dsimp only at hSw); go_simp; try with_reducible rfl)
        try simp only [Act.put, List.setIfInBounds_toArray, List.set_cons_zero, List.set_cons_succ]
        refine rg_take (i := 20) (d := some 43) (l := #[true, true, false, false, false, true, true, false, false, false, true, true, false, false, false, true, true, false, false, false, true, false, false, false, false, false, false, false, false, false, false, false, false, false, false, false, false, false, false, false, false]) (fuel := 32) (v := ?_) rfl (by kernel_rfl) (by kernel_rfl) (by kernel_rfl) (by kernel_rfl) (by kernel_rfl) (fun _ _ _ h => h) (by kernel_rfl) ?_ (by assumption) ?_
        rotate_left 1
        · (intro wS hSw; (try dsimp only at hSw); go_simp; try with_reducible rfl)
        try simp only [Act.put, List.setIfInBounds_toArray, List.set_cons_zero, List.set_cons_succ]
        refine rg_take (i := 21) (d := some 44) (l := #[true, true, false, false, false, true, true, false, false, false, true, true, false, false, false, true, true, false, false, false, true, true, false, false, false, false, false, false, false, false, false, false, false, false, false, false, false, false, false, false, false]) (fuel := 31) (v := ?_) rfl (by kernel_rfl) (by kernel_rfl) (by kernel_rfl) (by kernel_rfl) (by kernel_rfl) (fun _ _ _ h => h) (by kernel_rfl) ?_ (by assumption) ?_
        rotate_left 1
        · (intro wS hSw; (try dsimp only at hSw); go_simp; try with_reducible rfl)
        try simp only [Act.put, List.setIfInBounds_toArray, List.set_cons_zero, List.set_cons_succ]
        refine rg_take (i := 25) (d := some 48) (l := #[true, true, false, false, false, true, true, false, false, false, true, true, false, false, false, true, true, false, false, false, true, true, false, false, false, true, false, false, false, false, false, false, false, false, false, false, false, false, false, false, false]) (fuel := 30) (v := ?_) rfl (by kernel_rfl) (by kernel_rfl) (by kernel_rfl) (by kernel_rfl) (by kernel_rfl) (fun _ _ _ h => h) (by kernel_rfl) ?_ (by assumption) ?_
        rotate_left 1
        · (intro wS hSw; (try dsimp only at hSw); go_simp; try with_reducible rfl)
        try simp only [Act.put, List.setIfInBounds_toArray, List.set_cons_zero, List.set_cons_succ]
        refine rg_take (i := 26) (d := some 49) (l := #[true, true, false, false, false, true, true, false, false, false, true, true, false, false, false, true, true, false, false, false, true, true, false, false, false, true, true, false, false, false, false, false, false, false, false, false, false, false, false, false, false]) (fuel := 29) (v := ?_) rfl (by kernel_rfl) (by kernel_rfl) (by kernel_rfl) (by kernel_rfl) (by kernel_rfl) (fun _ _ _ h => h) (by kernel_rfl) ?_ (by assumption) ?_
        rotate_left 1
        · (intro wS hSw; (try dsimp only at hSw); go_simp; try with_reducible rfl)
        try simp only [Act.put, List.setIfInBounds_toArray, List.set_cons_zero, List.set_cons_succ]
        refine rg_take (i := 27) (d := some 50) (l := #[true, true, false, false, false, true, true, false, false, false, true, true, false, false, false, true, true, false, false, false, true, true, false, false, false, true, true, true, false, false, false, false, false, false, false, false, false, false, false, false, false]) (fuel := 28) (v := ?_) rfl (by kernel_rfl) (by kernel_rfl) (by kernel_rfl) (by kernel_rfl) (by kernel_rfl) (fun _ _ _ h => h) (by kernel_rfl) ?_ (by assumption) ?_
        rotate_left 1
        · (intro wS hSw; (try dsimp only at hSw); go_simp; try with_reducible rfl)
        try simp only [Act.put, List.setIfInBounds_toArray, List.set_cons_zero, List.set_cons_succ]
        refine rg_take (i := 31) (d := some 54) (l := #[true, true, false, false, false, true, true, false, false, false, true, true, false, false, false, true, true, false, false, false, true, true, false, false, false, true, true, true, false, false, false, true, false, false, false, false, false, false, false, false, false]) (fuel := 27) (v := ?_) rfl (by kernel_rfl) (by kernel_rfl) (by kernel_rfl) (by kernel_rfl) (by kernel_rfl) (fun _ _ _ h => h) (by kernel_rfl) ?_ (by assumption) ?_
        rotate_left 1
        · (intro wS hSw; (try dsimp only at hSw); go_simp; try with_reducible rfl)
        try simp only [Act.put, List.setIfInBounds_toArray, List.set_cons_zero, List.set_cons_succ]
        refine rg_take (i := 34) (d := some 57) (l := #[true, true, false, false, false, true, true, false, false, false, true, true, false, false, false, true, true, false, false, false, true, true, false, false, false, true, true, true, false, false, false, true, false, false, true, false, false, false, false, false, false]) (fuel := 26) (v := ?_) rfl (by kernel_rfl) (by kernel_rfl) (by kernel_rfl) (by kernel_rfl) (by kernel_rfl) (fun _ _ _ h => h) (by kernel_rfl) ?_ (by assumption) ?_
        rotate_left 1
        · (intro wS hSw; (try dsimp only at hSw); go_simp; try with_reducible rfl)
        try simp only [Act.put, List.setIfInBounds_toArray, List.set_cons_zero, List.set_cons_succ]
        refine rg_take (i := 35) (d := some 58) (l := #[true, true, false, false, false, true, true, false, false, false, true, true, false, false, false, true, true, false, false, false, true, true, false, false, false, true, true, true, false, false, false, true, false, false, true, true, false, false, false, false, false]) (fuel := 25) (v := ?_) rfl (by kernel_rfl) (by kernel_rfl) (by kernel_rfl) (by kernel_rfl) (by kernel_rfl) (fun _ _ _ h => h) (by kernel_rfl) ?_ (by assumption) ?_
        rotate_left 1
        · (intro wS hSw; (try dsimp only at hSw); go_simp; try with_reducible rfl)
        try simp only [Act.put, List.setIfInBounds_toArray, List.set_cons_zero, List.set_cons_succ]
        refine rg_take (i := 38) (d := some 61) (l := #[true, true, false, false, false, true, true, false, false, false, true, true, false, false, false, true, true, false, false, false, true, true, false, false, false, true, true, true, false, false, false, true, false, false, true, true, false, false, true, false, false]) (fuel := 24) (v := ?_) rfl (by kernel_rfl) (by kernel_rfl) (by kernel_rfl) (by kernel_rfl) (by kernel_rfl) (fun _ _ _ h => h) (by kernel_rfl) ?_ (by assumption) ?_
        rotate_left 1
        · (intro wS hSw; (try dsimp only at hSw); go_simp; try with_reducible rfl)
        try simp only [Act.put, List.setIfInBounds_toArray, List.set_cons_zero, List.set_cons_succ]
        refine rg_next (i := 2) (l := #[true, true, true, false, false, true, true, false, false, false, true, true, false, false, false, true, true, false, false, false, true, true, false, false, false, true, true, true, false, false, false, true, false, false, true, true, false, false, true, false, false]) (fuel := 23) (by kernel_rfl) rfl (by kernel_rfl) (by kernel_rfl) (fun K hK => ?_)
        go_simp
        go_at_call 36
        refine (h0 _).mono ?_
        rintro e w' ⟨rfl, rfl⟩
        first | (refine hK.out _ _ ?_ (fun hHeld => ?_)) | (go_wp2_with fail; refine hK.out _ _ ?_ (fun hHeld => ?_))
        · (try dsimp only); exact HS.out
        clear hK K
        try simp only [Act.put, List.setIfInBounds_toArray, List.set_cons_zero, List.set_cons_succ]
        refine rg_take (i := 3) (d := some 26) (l := #[true, true, true, true, false, true, true, false, false, false, true, true, false, false, false, true, true, false, false, false, true, true, false, false, false, true, true, true, false, false, false, true, false, false, true, true, false, false, true, false, false]) (fuel := 22) (v := .string ((⟨#[65, 61]⟩ : ByteArray) ++ t0)) rfl (by kernel_rfl) (by kernel_rfl) (by kernel_rfl) (by kernel_rfl) (by kernel_rfl) (fun _ _ _ h => h) (by kernel_rfl) ?_ (by assumption) ?_
        · (intro wS hSw; (try dsimp only at hSw); (go_simp; try omega))
        try simp only [Act.put, List.setIfInBounds_toArray, List.set_cons_zero, List.set_cons_succ]
        refine rg_take (i := 4) (d := some 27) (l := #[true, true, true, true, true, true, true, false, false, false, true, true, false, false, false, true, true, false, false, false, true, true, false, false, false, true, true, true, false, false, false, true, false, false, true, true, false, false, true, false, false]) (fuel := 21) (v := .string (((⟨#[65, 61]⟩ : ByteArray) ++ t0) ++ (⟨#[32, 88, 61]⟩ : ByteArray))) rfl (by kernel_rfl) (by kernel_rfl) (by kernel_rfl) (by kernel_rfl) (by kernel_rfl) (fun _ _ _ h => h) (by kernel_rfl) ?_ (by assumption) ?_
        · (intro wS hSw; (try dsimp only at hSw); (go_simp; try omega))
        try simp only [Act.put, List.setIfInBounds_toArray, List.set_cons_zero, List.set_cons_succ]
        refine rg_next (i := 7) (l := #[true, true, true, true, true, true, true, true, false, false, true, true, false, false, false, true, true, false, false, false, true, true, false, false, false, true, true, true, false, false, false, true, false, false, true, true, false, false, true, false, false]) (fuel := 20) (by kernel_rfl) rfl (by kernel_rfl) (by kernel_rfl) (fun K hK => ?_)
        go_simp
        go_at_call 36
        refine (h1 _).mono ?_
        rintro e w' ⟨rfl, rfl⟩
        first | (refine hK.out _ _ ?_ (fun hHeld => ?_)) | (go_wp2_with fail; refine hK.out _ _ ?_ (fun hHeld => ?_))
        · (try dsimp only); exact HS.out
        clear hK K
        try simp only [Act.put, List.setIfInBounds_toArray, List.set_cons_zero, List.set_cons_succ]
        refine rg_take (i := 8) (d := some 31) (l := #[true, true, true, true, true, true, true, true, true, false, true, true, false, false, false, true, true, false, false, false, true, true, false, false, false, true, true, true, false, false, false, true, false, false, true, true, false, false, true, false, false]) (fuel := 19) (v := .string ((((⟨#[65, 61]⟩ : ByteArray) ++ t0) ++ (⟨#[32, 88, 61]⟩ : ByteArray)) ++ t1)) rfl (by kernel_rfl) (by kernel_rfl) (by kernel_rfl) (by kernel_rfl) (by kernel_rfl) (fun _ _ _ h => h) (by kernel_rfl) ?_ (by assumption) ?_
        · (intro wS hSw; (try dsimp only at hSw); (go_simp; try omega))
        try simp only [Act.put, List.setIfInBounds_toArray, List.set_cons_zero, List.set_cons_succ]
        refine rg_take (i := 9) (d := some 32) (l := #[true, true, true, true, true, true, true, true, true, true, true, true, false, false, false, true, true, false, false, false, true, true, false, false, false, true, true, true, false, false, false, true, false, false, true, true, false, false, true, false, false]) (fuel := 18) (v := .string (((((⟨#[65, 61]⟩ : ByteArray) ++ t0) ++ (⟨#[32, 88, 61]⟩ : ByteArray)) ++ t1) ++ (⟨#[32, 89, 61]⟩ : ByteArray))) rfl (by kernel_rfl) (by kernel_rfl) (by kernel_rfl) (by kernel_rfl) (by kernel_rfl) (fun _ _ _ h => h) (by kernel_rfl) ?_ (by assumption) ?_
        · (intro wS hSw; (try dsimp only at hSw); (go_simp; try omega))
        try simp only [Act.put, List.setIfInBounds_toArray, List.set_cons_zero, List.set_cons_succ]
        refine rg_next (i := 12) (l := #[true, true, true, true, true, true, true, true, true, true, true, true, true, false, false, true, true, false, false, false, true, true, false, false, false, true, true, true, false, false, false, true, false, false, true, true, false, false, true, false, false]) (fuel := 17) (by kernel_rfl) rfl (by kernel_rfl) (by kernel_rfl) (fun K hK => ?_)
        go_simp
        go_at_call 36
        refine (h2 _).mono ?_
        rintro e w' ⟨rfl, rfl⟩
        first | (refine hK.out _ _ ?_ (fun hHeld => ?_)) | (go_wp2_with fail; refine hK.out _ _ ?_ (fun hHeld => ?_))
        · (try dsimp only); exact HS.out
        clear hK K
        try simp only [Act.put, List.setIfInBounds_toArray, List.set_cons_zero, List.set_cons_succ]
        refine rg_take (i := 13) (d := some 36) (l := #[true, true, true, true, true, true, true, true, true, true, true, true, true, true, false, true, true, false, false, false, true, true, false, false, false, true, true, true, false, false, false, true, false, false, true, true, false, false, true, false, false]) (fuel := 16) (v := .string ((((((⟨#[65, 61]⟩ : ByteArray) ++ t0) ++ (⟨#[32, 88, 61]⟩ : ByteArray)) ++ t1) ++ (⟨#[32, 89, 61]⟩ : ByteArray)) ++ t2)) rfl (by kernel_rfl) (by kernel_rfl) (by kernel_rfl) (by kernel_rfl) (by kernel_rfl) (fun _ _ _ h => h) (by kernel_rfl) ?_ (by assumption) ?_
        · (intro wS hSw; (try dsimp only at hSw); (go_simp; try omega))
        try simp only [Act.put, List.setIfInBounds_toArray, List.set_cons_zero, List.set_cons_succ]
        refine rg_take (i := 14) (d := some 37) (l := #[true, true, true, true, true, true, true, true, true, true, true, true, true, true, true, true, true, false, false, false, true, true, false, false, false, true, true, true, false, false, false, true, false, false, true, true, false, false, true, false, false]) (fuel := 15) (v := .string (((((((⟨#[65, 61]⟩ : ByteArray) ++ t0) ++ (⟨#[32, 88, 61]⟩ : ByteArray)) ++ t1) ++ (⟨#[32, 89, 61]⟩ : ByteArray)) ++ t2) ++ (⟨#[32, 83, 61]⟩ : ByteArray))) rfl (by kernel_rfl) (by kernel_rfl) (by kernel_rfl) (by kernel_rfl) (by kernel_rfl) (fun _ _ _ h => h) (by kernel_rfl) ?_ (by assumption) ?_
        · (intro wS hSw; (try dsimp only at hSw); (go_simp; try omega))
        try simp only [Act.put, List.setIfInBounds_toArray, List.set_cons_zero, List.set_cons_succ]
        refine rg_next (i := 17) (l := #[true, true, true, true, true, true, true, true, true, true, true, true, true, true, true, true, true, true, false, false, true, true, false, false, false, true, true, true, false, false, false, true, false, false, true, true, false, false, true, false, false]) (fuel := 14) (by kernel_rfl) rfl (by kernel_rfl) (by kernel_rfl) (fun K hK => ?_)
        go_simp
        go_at_call 36
        refine (h3 _).mono ?_
        rintro e w' ⟨rfl, rfl⟩
        first | (refine hK.out _ _ ?_ (fun hHeld => ?_)) | (go_wp2_with fail; refine hK.out _ _ ?_ (fun hHeld => ?_))
        · (try dsimp only); exact HS.out
        clear hK K
        try simp only [Act.put, List.setIfInBounds_toArray, List.set_cons_zero, List.set_cons_succ]
        refine rg_take (i := 18) (d := some 41) (l := #[true, true, true, true, true, true, true, true, true, true, true, true, true, true, true, true, true, true, true, false, true, true, false, false, false, true, true, true, false, false, false, true, false, false, true, true, false, false, true, false, false]) (fuel := 13) (v := .string ((((((((⟨#[65, 61]⟩ : ByteArray) ++ t0) ++ (⟨#[32, 88, 61]⟩ : ByteArray)) ++ t1) ++ (⟨#[32, 89, 61]⟩ : ByteArray)) ++ t2) ++ (⟨#[32, 83, 61]⟩ : ByteArray)) ++ t3)) rfl (by kernel_rfl) (by kernel_rfl) (by kernel_rfl) (by kernel_rfl) (by kernel_rfl) (fun _ _ _ h => h) (by kernel_rfl) ?_ (by assumption) ?_
        · (intro wS hSw; (try dsimp only at hSw); (go_simp; try omega))
        try simp only [Act.put, List.setIfInBounds_toArray, List.set_cons_zero, List.set_cons_succ]
        refine rg_take (i := 19) (d := some 42) (l := #[true, true, true, true, true, true, true, true, true, true, true, true, true, true, true, true, true, true, true, true, true, true, false, false, false, true, true, true, false, false, false, true, false, false, true, true, false, false, true, false, false]) (fuel := 12) (v := .string (((((((((⟨#[65, 61]⟩ : ByteArray) ++ t0) ++ (⟨#[32, 88, 61]⟩ : ByteArray)) ++ t1) ++ (⟨#[32, 89, 61]⟩ : ByteArray)) ++ t2) ++ (⟨#[32, 83, 61]⟩ : ByteArray)) ++ t3) ++ (⟨#[32, 80, 61]⟩ : ByteArray))) rfl (by kernel_rfl) (by kernel_rfl) (by kernel_rfl) (by kernel_rfl) (by kernel_rfl) (fun _ _ _ h => h) (by kernel_rfl) ?_ (by assumption) ?_
        · (intro wS hSw; (try dsimp only at hSw); (go_simp; try omega))
        try simp only [Act.put, List.setIfInBounds_toArray, List.set_cons_zero, List.set_cons_succ]
        refine rg_next (i := 22) (l := #[true, true, true, true, true, true, true, true, true, true, true, true, true, true, true, true, true, true, true, true, true, true, true, false, false, true, true, true, false, false, false, true, false, false, true, true, false, false, true, false, false]) (fuel := 11) (by kernel_rfl) rfl (by kernel_rfl) (by kernel_rfl) (fun K hK => ?_)
        go_simp
        go_at_call 37
        refine (h4 _).mono ?_
        rintro e w' ⟨rfl, rfl⟩
        first | (refine hK.out _ _ ?_ (fun hHeld => ?_)) | (go_wp2_with fail; refine hK.out _ _ ?_ (fun hHeld => ?_))
        · (try dsimp only); exact HS.out
        clear hK K
        try simp only [Act.put, List.setIfInBounds_toArray, List.set_cons_zero, List.set_cons_succ]
        refine rg_take (i := 23) (d := some 46) (l := #[true, true, true, true, true, true, true, true, true, true, true, true, true, true, true, true, true, true, true, true, true, true, true, true, false, true, true, true, false, false, false, true, false, false, true, true, false, false, true, false, false]) (fuel := 10) (v := .string ((((((((((⟨#[65, 61]⟩ : ByteArray) ++ t0) ++ (⟨#[32, 88, 61]⟩ : ByteArray)) ++ t1) ++ (⟨#[32, 89, 61]⟩ : ByteArray)) ++ t2) ++ (⟨#[32, 83, 61]⟩ : ByteArray)) ++ t3) ++ (⟨#[32, 80, 61]⟩ : ByteArray)) ++ t4)) rfl (by kernel_rfl) (by kernel_rfl) (by kernel_rfl) (by kernel_rfl) (by kernel_rfl) (fun _ _ _ h => h) (by kernel_rfl) ?_ (by assumption) ?_
        · (intro wS hSw; (try dsimp only at hSw); (go_simp; try omega))
        try simp only [Act.put, List.setIfInBounds_toArray, List.set_cons_zero, List.set_cons_succ]
        refine rg_take (i := 24) (d := some 47) (l := #[true, true, true, true, true, true, true, true, true, true, true, true, true, true, true, true, true, true, true, true, true, true, true, true, true, true, true, true, false, false, false, true, false, false, true, true, false, false, true, false, false]) (fuel := 9) (v := .string (((((((((((⟨#[65, 61]⟩ : ByteArray) ++ t0) ++ (⟨#[32, 88, 61]⟩ : ByteArray)) ++ t1) ++ (⟨#[32, 89, 61]⟩ : ByteArray)) ++ t2) ++ (⟨#[32, 83, 61]⟩ : ByteArray)) ++ t3) ++ (⟨#[32, 80, 61]⟩ : ByteArray)) ++ t4) ++ (⟨#[32, 80, 67, 61]⟩ : ByteArray))) rfl (by kernel_rfl) (by kernel_rfl) (by kernel_rfl) (by kernel_rfl) (by kernel_rfl) (fun _ _ _ h => h) (by kernel_rfl) ?_ (by assumption) ?_
        · (intro wS hSw; (try dsimp only at hSw); (go_simp; try omega))
        try simp only [Act.put, List.setIfInBounds_toArray, List.set_cons_zero, List.set_cons_succ]
        refine rg_next (i := 28) (l := #[true, true, true, true, true, true, true, true, true, true, true, true, true, true, true, true, true, true, true, true, true, true, true, true, true, true, true, true, true, false, false, true, false, false, true, true, false, false, true, false, false]) (fuel := 8) (by kernel_rfl) rfl (by kernel_rfl) (by kernel_rfl) (fun K hK => ?_)
        go_simp
        go_at_call 38
        refine (h5 _).mono ?_
        rintro e w' ⟨rfl, rfl⟩
        first | (refine hK.out _ _ ?_ (fun hHeld => ?_)) | (go_wp2_with fail; refine hK.out _ _ ?_ (fun hHeld => ?_))
        · (try dsimp only); exact HS.out
        clear hK K
        try simp only [Act.put, List.setIfInBounds_toArray, List.set_cons_zero, List.set_cons_succ]
        refine rg_take (i := 29) (d := some 52) (l := #[true, true, true, true, true, true, true, true, true, true, true, true, true, true, true, true, true, true, true, true, true, true, true, true, true, true, true, true, true, true, false, true, false, false, true, true, false, false, true, false, false]) (fuel := 7) (v := .string ((((((((((((⟨#[65, 61]⟩ : ByteArray) ++ t0) ++ (⟨#[32, 88, 61]⟩ : ByteArray)) ++ t1) ++ (⟨#[32, 89, 61]⟩ : ByteArray)) ++ t2) ++ (⟨#[32, 83, 61]⟩ : ByteArray)) ++ t3) ++ (⟨#[32, 80, 61]⟩ : ByteArray)) ++ t4) ++ (⟨#[32, 80, 67, 61]⟩ : ByteArray)) ++ t5)) rfl (by kernel_rfl) (by kernel_rfl) (by kernel_rfl) (by kernel_rfl) (by kernel_rfl) (fun _ _ _ h => h) (by kernel_rfl) ?_ (by assumption) ?_
        · (intro wS hSw; (try dsimp only at hSw); (go_simp; try omega))
        try simp only [Act.put, List.setIfInBounds_toArray, List.set_cons_zero, List.set_cons_succ]
        refine rg_take (i := 30) (d := some 53) (l := #[true, true, true, true, true, true, true, true, true, true, true, true, true, true, true, true, true, true, true, true, true, true, true, true, true, true, true, true, true, true, true, true, false, false, true, true, false, false, true, false, false]) (fuel := 6) (v := .string (((((((((((((⟨#[65, 61]⟩ : ByteArray) ++ t0) ++ (⟨#[32, 88, 61]⟩ : ByteArray)) ++ t1) ++ (⟨#[32, 89, 61]⟩ : ByteArray)) ++ t2) ++ (⟨#[32, 83, 61]⟩ : ByteArray)) ++ t3) ++ (⟨#[32, 80, 61]⟩ : ByteArray)) ++ t4) ++ (⟨#[32, 80, 67, 61]⟩ : ByteArray)) ++ t5) ++ (⟨#[32, 77, 61]⟩ : ByteArray))) rfl (by kernel_rfl) (by kernel_rfl) (by kernel_rfl) (by kernel_rfl) (by kernel_rfl) (fun _ _ _ h => h) (by kernel_rfl) ?_ (by assumption) ?_
        · (intro wS hSw; (try dsimp only at hSw); (go_simp; try omega))
        try simp only [Act.put, List.setIfInBounds_toArray, List.set_cons_zero, List.set_cons_succ]
        refine rg_take (i := 32) (d := some 55) (l := #[true, true, true, true, true, true, true, true, true, true, true, true, true, true, true, true, true, true, true, true, true, true, true, true, true, true, true, true, true, true, true, true, true, false, true, true, false, false, true, false, false]) (fuel := 5) (v := .string ((((((((((((((⟨#[65, 61]⟩ : ByteArray) ++ t0) ++ (⟨#[32, 88, 61]⟩ : ByteArray)) ++ t1) ++ (⟨#[32, 89, 61]⟩ : ByteArray)) ++ t2) ++ (⟨#[32, 83, 61]⟩ : ByteArray)) ++ t3) ++ (⟨#[32, 80, 61]⟩ : ByteArray)) ++ t4) ++ (⟨#[32, 80, 67, 61]⟩ : ByteArray)) ++ t5) ++ (⟨#[32, 77, 61]⟩ : ByteArray)) ++ m)) rfl (by kernel_rfl) (by kernel_rfl) (by kernel_rfl) (by kernel_rfl) (by kernel_rfl) (fun _ _ _ h => h) (by kernel_rfl) ?_ (by assumption) ?_
        · (intro wS hSw; (try dsimp only at hSw); (go_simp; try omega))
        try simp only [Act.put, List.setIfInBounds_toArray, List.set_cons_zero, List.set_cons_succ]
        refine rg_take (i := 33) (d := some 56) (l := #[true, true, true, true, true, true, true, true, true, true, true, true, true, true, true, true, true, true, true, true, true, true, true, true, true, true, true, true, true, true, true, true, true, true, true, true, false, false, true, false, false]) (fuel := 4) (v := .string (((((((((((((((⟨#[65, 61]⟩ : ByteArray) ++ t0) ++ (⟨#[32, 88, 61]⟩ : ByteArray)) ++ t1) ++ (⟨#[32, 89, 61]⟩ : ByteArray)) ++ t2) ++ (⟨#[32, 83, 61]⟩ : ByteArray)) ++ t3) ++ (⟨#[32, 80, 61]⟩ : ByteArray)) ++ t4) ++ (⟨#[32, 80, 67, 61]⟩ : ByteArray)) ++ t5) ++ (⟨#[32, 77, 61]⟩ : ByteArray)) ++ m) ++ (⟨#[32, 76, 61]⟩ : ByteArray))) rfl (by kernel_rfl) (by kernel_rfl) (by kernel_rfl) (by kernel_rfl) (by kernel_rfl) (fun _ _ _ h => h) (by kernel_rfl) ?_ (by assumption) ?_
        · (intro wS hSw; (try dsimp only at hSw); (go_simp; try omega))
        try simp only [Act.put, List.setIfInBounds_toArray, List.set_cons_zero, List.set_cons_succ]
        refine rg_next (i := 36) (l := #[true, true, true, true, true, true, true, true, true, true, true, true, true, true, true, true, true, true, true, true, true, true, true, true, true, true, true, true, true, true, true, true, true, true, true, true, true, false, true, false, false]) (fuel := 3) (by kernel_rfl) rfl (by kernel_rfl) (by kernel_rfl) (fun K hK => ?_)
        go_simp
        go_at_call 36
        refine (h14 _).mono ?_
        rintro e w' ⟨rfl, rfl⟩
        first | (refine hK.out _ _ ?_ (fun hHeld => ?_)) | (go_wp2_with fail; refine hK.out _ _ ?_ (fun hHeld => ?_))
        · (try dsimp only); exact HS.out
        clear hK K
        try simp only [Act.put, List.setIfInBounds_toArray, List.set_cons_zero, List.set_cons_succ]
        refine rg_take (i := 37) (d := some 60) (l := #[true, true, true, true, true, true, true, true, true, true, true, true, true, true, true, true, true, true, true, true, true, true, true, true, true, true, true, true, true, true, true, true, true, true, true, true, true, true, true, false, false]) (fuel := 2) (v := .string ((((((((((((((((⟨#[65, 61]⟩ : ByteArray) ++ t0) ++ (⟨#[32, 88, 61]⟩ : ByteArray)) ++ t1) ++ (⟨#[32, 89, 61]⟩ : ByteArray)) ++ t2) ++ (⟨#[32, 83, 61]⟩ : ByteArray)) ++ t3) ++ (⟨#[32, 80, 61]⟩ : ByteArray)) ++ t4) ++ (⟨#[32, 80, 67, 61]⟩ : ByteArray)) ++ t5) ++ (⟨#[32, 77, 61]⟩ : ByteArray)) ++ m) ++ (⟨#[32, 76, 61]⟩ : ByteArray)) ++ t14)) rfl (by kernel_rfl) (by kernel_rfl) (by kernel_rfl) (by kernel_rfl) (by kernel_rfl) (fun _ _ _ h => h) (by kernel_rfl) ?_ (by assumption) ?_
        · (intro wS hSw; (try dsimp only at hSw); (go_simp; try omega))
        try simp only [Act.put, List.setIfInBounds_toArray, List.set_cons_zero, List.set_cons_succ]
        refine rg_take (i := 39) (d := some 62) (l := #[true, true, true, true, true, true, true, true, true, true, true, true, true, true, true, true, true, true, true, true, true, true, true, true, true, true, true, true, true, true, true, true, true, true, true, true, true, true, true, true, false]) (fuel := 1) (v := .string (((((((((((((((((⟨#[65, 61]⟩ : ByteArray) ++ t0) ++ (⟨#[32, 88, 61]⟩ : ByteArray)) ++ t1) ++ (⟨#[32, 89, 61]⟩ : ByteArray)) ++ t2) ++ (⟨#[32, 83, 61]⟩ : ByteArray)) ++ t3) ++ (⟨#[32, 80, 61]⟩ : ByteArray)) ++ t4) ++ (⟨#[32, 80, 67, 61]⟩ : ByteArray)) ++ t5) ++ (⟨#[32, 77, 61]⟩ : ByteArray)) ++ m) ++ (⟨#[32, 76, 61]⟩ : ByteArray)) ++ t14) ++ (⟨#[32, 102, 97, 115, 116]⟩ : ByteArray))) rfl (by kernel_rfl) (by kernel_rfl) (by kernel_rfl) (by kernel_rfl) (by kernel_rfl) (fun _ _ _ h => h) (by kernel_rfl) ?_ (by assumption) ?_
        · (intro wS hSw; (try dsimp only at hSw); (go_simp; try omega))
        try simp only [Act.put, List.setIfInBounds_toArray, List.set_cons_zero, List.set_cons_succ]
        refine rg_take (i := 40) (d := some 2) (l := #[true, true, true, true, true, true, true, true, true, true, true, true, true, true, true, true, true, true, true, true, true, true, true, true, true, true, true, true, true, true, true, true, true, true, true, true, true, true, true, true, true]) (fuel := 0) (v := ?_) rfl (by kernel_rfl) (by kernel_rfl) (by kernel_rfl) (by kernel_rfl) (by kernel_rfl) (fun _ _ _ h => h) (by kernel_rfl) ?_ (by assumption) ?_
        rotate_left 1
        · (intro wS hSw; (try dsimp only at hSw); go_simp; try with_reducible rfl)
        try simp only [Act.put, List.setIfInBounds_toArray, List.set_cons_zero, List.set_cons_succ]
        refine wpAnyH_done (by kernel_rfl) ?_ _
        clear hHeld
        go_wp2_with fail
        go_ret
        exact ⟨by rw [HT.out]; rfl, B0.out.drew⟩
      · have hb : decide (r 15 = 1) = false := by simp [hq15]
        rw [hb] at c15
        rw [if_neg hq15] at HT
        have HS : Hid (wr.drew.cell? ⟨g, 0, none⟩ = some (.int .u8 (r 0)) ∧ wr.drew.cell? ⟨g, 1, none⟩ = some (.int .u8 (r 1)) ∧ wr.drew.cell? ⟨g, 2, none⟩ = some (.int .u8 (r 2)) ∧ wr.drew.cell? ⟨g, 3, none⟩ = some (.int .u8 (r 3)) ∧ wr.drew.cell? ⟨g, 4, none⟩ = some (.int .u8 (r 4)) ∧ wr.drew.cell? ⟨g, 14, none⟩ = some (.int .u8 (r 14)) ∧ wr.drew.cell? ⟨g, 5, none⟩ = some (.int .u16 (r 5))) := Lib.hid ⟨c0, c1, c2, c3, c4, c14, c5⟩
        have l1 : (⟨#[65, 61]⟩ : ByteArray).size = 2 := rfl
        have l2 : (⟨#[32, 88, 61]⟩ : ByteArray).size = 3 := rfl
        have l3 : (⟨#[32, 89, 61]⟩ : ByteArray).size = 3 := rfl
        have l4 : (⟨#[32, 83, 61]⟩ : ByteArray).size = 3 := rfl
        have l5 : (⟨#[32, 80, 61]⟩ : ByteArray).size = 3 := rfl
        have l6 : (⟨#[32, 80, 67, 61]⟩ : ByteArray).size = 4 := rfl
        have l7 : (⟨#[32, 77, 61]⟩ : ByteArray).size = 3 := rfl
        have l8 : (⟨#[32, 76, 61]⟩ : ByteArray).size = 3 := rfl
        have l9 : (⟨#[32, 115, 108, 111, 119]⟩ : ByteArray).size = 5 := rfl
        clear hf hq15 hb
        go_upto_region 11 with fail
        clear c0 c1 c2 c3 c4 c5 c14 c15
        refine rg_begin (S := fun w' => w'.cell? ⟨g, 0, none⟩ = some (.int .u8 (r 0)) ∧ w'.cell? ⟨g, 1, none⟩ = some (.int .u8 (r 1)) ∧ w'.cell? ⟨g, 2, none⟩ = some (.int .u8 (r 2)) ∧ w'.cell? ⟨g, 3, none⟩ = some (.int .u8 (r 3)) ∧ w'.cell? ⟨g, 4, none⟩ = some (.int .u8 (r 4)) ∧ w'.cell? ⟨g, 14, none⟩ = some (.int .u8 (r 14)) ∧ w'.cell? ⟨g, 5, none⟩ = some (.int .u16 (r 5))) 41 #[false, false, false, false, false, false, false, false, false, false, false, false, false, false, false, false, false, false, false, false, false, false, false, false, false, false, false, false, false, false, false, false, false, false, false, false, false, false, false, false, false] (by kernel_rfl) (by kernel_rfl) (by kernel_rfl) ?_ (fun hHeld => ?_)
        · exact HS.out
        refine rg_take (i := 0) (d := some 23) (l := #[true, false, false, false, false, false, false, false, false, false, false, false, false, false, false, false, false, false, false, false, false, false, false, false, false, false, false, false, false, false, false, false, false, false, false, false, false, false, false, false, false]) (fuel := 40) (v := ?_) rfl (by kernel_rfl) (by kernel_rfl) (by kernel_rfl) (by kernel_rfl) (by kernel_rfl) (fun _ _ _ h => h) (by kernel_rfl) ?_ (by assumption) ?_
        rotate_left 1
        · (intro wS hSw; (try dsimp only at hSw); go_simp; try with_reducible rfl)
        try simp only [Act.put, List.setIfInBounds_toArray, List.set_cons_zero, List.set_cons_succ]
        refine rg_take (i := 1) (d := some 24) (l := #[true, true, false, false, false, false, false, false, false, false, false, false, false, false, false, false, false, false, false, false, false, false, false, false, false, false, false, false, false, false, false, false, false, false, false, false, false, false, false, false, false]) (fuel := 39) (v := ?_) rfl (by kernel_rfl) (by kernel_rfl) (by kernel_rfl) (by kernel_rfl) (by kernel_rfl) (fun _ _ _ h => h) (by kernel_rfl) ?_ (by assumption) ?_
        rotate_left 1
        · (intro wS hSw; (try dsimp only at hSw); go_simp; try with_reducible rfl)
        try simp only [Act.put, List.setIfInBounds_toArray, List.set_cons_zero, List.set_cons_succ]
        refine rg_take (i := 5) (d := some 28) (l := #[true, true, false, false, false, true, false, false, false, false, false, false, false, false, false, false, false, false, false, false, false, false, false, false, false, false, false, false, false, false, false, false, false, false, false, false, false, false, false, false, false]) (fuel := 38) (v := ?_) rfl (by kernel_rfl) (by kernel_rfl) (by kernel_rfl) (by kernel_rfl) (by kernel_rfl) (fun _ _ _ h => h) (by kernel_rfl) ?_ (by assumption) ?_
        rotate_left 1
        · (intro wS hSw; (try dsimp only at hSw); go_simp; try with_reducible rfl)
        try simp only [Act.put, List.setIfInBounds_toArray, List.set_cons_zero, List.set_cons_succ]
        refine rg_take (i := 6) (d := some 29) (l := #[true, true, false, false, false, true, true, false, false, false, false, false, false, false, false, false, false, false, false, false, false, false, false, false, false, false, false, false, false, false, false, false, false, false, false, false, false, false, false, false, false]) (fuel := 37) (v := ?_) rfl (by kernel_rfl) (by kernel_rfl) (by kernel_rfl) (by kernel_rfl) (by kernel_rfl) (fun _ _ _ h => h) (by kernel_rfl) ?_ (by assumption) ?_
        rotate_left 1
        · (intro wS hSw; (try dsimp only at hSw); go_simp; try with_reducible rfl)
        try simp only [Act.put, List.setIfInBounds_toArray, List.set_cons_zero, List.set_cons_succ]
        refine rg_take (i := 10) (d := some 33) (l := #[true, true, false, false, false, true, true, false, false, false, true, false, false, false, false, false, false, false, false, false, false, false, false, false, false, false, false, false, false, false, false, false, false, false, false, false, false, false, false, false, false]) (fuel := 36) (v := ?_) rfl (by kernel_rfl) (by kernel_rfl) (by kernel_rfl) (by kernel_rfl) (by kernel_rfl) (fun _ _ _ h => h) (by kernel_rfl) ?_ (by assumption) ?_
        rotate_left 1
        · (intro wS hSw; (try dsimp only at hSw); go_simp; try with_reducible rfl)
        try simp only [Act.put, List.setIfInBounds_toArray, List.set_cons_zero, List.set_cons_succ]
        refine rg_take (i := 11) (d := some 34) (l := #[true, true, false, false, false, true, true, false, false, false, true, true, false, false, false, false, false, false, false, false, false, false, false, false, false, false, false, false, false, false, false, false, false, false, false, false, false, false, false, false, false]) (fuel := 35) (v := ?_) rfl (by kernel_rfl) (by kernel_rfl) (by kernel_rfl) (by kernel_rfl) (by kernel_rfl) (fun _ _ _ h => h) (by kernel_rfl) ?_ (by assumption) ?_
        rotate_left 1
        · (intro wS hSw; (try dsimp only at hSw); go_simp; try with_reducible rfl)
        try simp only [Act.put, List.setIfInBounds_toArray, List.set_cons_zero, List.set_cons_succ]
        refine rg_take (i := 15) (d := some 38) (l := #[true, true, false, false, false, true, true, false, false, false, true, true, false, false, false, true, false, false, false, false, false, false, false, false, false, false, false, false, false, false, false, false, false, false, false, false, false, false, false, false, false]) (fuel := 34) (v := ?_) rfl (by kernel_rfl) (by kernel_rfl) (by kernel_rfl) (by kernel_rfl) (by kernel_rfl) (fun _ _ _ h => h) (by kernel_rfl) ?_ (by assumption) ?_
        rotate_left 1
        · (intro wS hSw; (try dsimp only at hSw); go_simp; try with_reducible rfl)
        try simp only [Act.put, List.setIfInBounds_toArray, List.set_cons_zero, List.set_cons_succ]
        refine rg_take (i := 16) (d := some 39) (l := #[true, true, false, false, false, true, true, false, false, false, true, true, false, false, false, true, true, false, false, false, false, false, false, false, false, false, false, false, false, false, false, false, false, false, false, false, false, false, false, false, false]) (fuel := 33) (v := ?_) rfl (by kernel_rfl) (by kernel_rfl) (by kernel_rfl) (by kernel_rfl) (by kernel_rfl) (fun _ _ _ h => h) (by kernel_rfl) ?_ (by assumption) ?_
        rotate_left 1
        · (intro wS hSw; (try dsimp only at hSw); go_simp; try with_reducible rfl)
        try simp only [Act.put, List.setIfInBounds_toArray, List.set_cons_zero, List.set_cons_succ]
        refine rg_take (i := 20) (d := some 43) (l := #[true, true, false, false, false, true, true, false, false, false, true, true, false, false, false, true, true, false, false, false, true, false, false, false, false, false, false, false, false, false, false, false, false, false, false, false, false, false, false, false, false]) (fuel := 32) (v := ?_) rfl (by kernel_rfl) (by kernel_rfl) (by kernel_rfl) (by kernel_rfl) (by kernel_rfl) (fun _ _ _ h => h) (by kernel_rfl) ?_ (by assumption) ?_
        rotate_left 1
        · (intro wS hSw; (try dsimp only at hSw); go_simp; try with_reducible rfl)
        try simp only [Act.put, List.setIfInBounds_toArray, List.set_cons_zero, List.set_cons_succ]
        refine rg_take (i := 21) (d := some 44) (l := #[true, true, false, false, false, true, true, false, false, false, true, true, false, false, false, true, true, false, false, false, true, true, false, false, false, false, false, false, false, false, false, false, false, false, false, false, false, false, false, false, false]) (fuel := 31) (v := ?_) rfl (by kernel_rfl) (by kernel_rfl) (by kernel_rfl) (by kernel_rfl) (by kernel_rfl) (fun _ _ _ h => h) (by kernel_rfl) ?_ (by assumption) ?_
        rotate_left 1
        · (intro wS hSw; (try dsimp only at hSw); go_simp; try with_reducible rfl)
        try simp only [Act.put, List.setIfInBounds_toArray, List.set_cons_zero, List.set_cons_succ]
        refine rg_take (i := 25) (d := some 48) (l := #[true, true, false, false, false, true, true, false, false, false, true, true, false, false, false, true, true, false, false, false, true, true, false, false, false, true, false, false, false, false, false, false, false, false, false, false, false, false, false, false, false]) (fuel := 30) (v := ?_) rfl (by kernel_rfl) (by kernel_rfl) (by kernel_rfl) (by kernel_rfl) (by kernel_rfl) (fun _ _ _ h => h) (by kernel_rfl) ?_ (by assumption) ?_
        rotate_left 1
        · (intro wS hSw; (try dsimp only at hSw); go_simp; try with_reducible rfl)
        try simp only [Act.put, List.setIfInBounds_toArray, List.set_cons_zero, List.set_cons_succ]
        refine rg_take (i := 26) (d := some 49) (l := #[true, true, false, false, false, true, true, false, false, false, true, true, false, false, false, true, true, false, false, false, true, true, false, false, false, true, true, false, false, false, false, false, false, false, false, false, false, false, false, false, false]) (fuel := 29) (v := ?_) rfl (by kernel_rfl) (by kernel_rfl) (by kernel_rfl) (by kernel_rfl) (by kernel_rfl) (fun _ _ _ h => h) (by kernel_rfl) ?_ (by assumption) ?_
        rotate_left 1
        · (intro wS hSw; (try dsimp only at hSw); go_simp; try with_reducible rfl)
        try simp only [Act.put, List.setIfInBounds_toArray, List.set_cons_zero, List.set_cons_succ]
        refine rg_take (i := 27) (d := some 50) (l := #[true, true, false, false, false, true, true, false, false, false, true, true, false, false, false, true, true, false, false, false, true, true, false, false, false, true, true, true, false, false, false, false, false, false, false, false, false, false, false, false, false]) (fuel := 28) (v := ?_) rfl (by kernel_rfl) (by kernel_rfl) (by kernel_rfl) (by kernel_rfl) (by kernel_rfl) (fun _ _ _ h => h) (by kernel_rfl) ?_ (by assumption) ?_
        rotate_left 1
        · (intro wS hSw; (try dsimp only at hSw); go_simp; try with_reducible rfl)
        try simp only [Act.put, List.setIfInBounds_toArray, List.set_cons_zero, List.set_cons_succ]
        refine rg_take (i := 31) (d := some 54) (l := #[true, true, false, false, false, true, true, false, false, false, true, true, false, false, false, true, true, false, false, false, true, true, false, false, false, true, true, true, false, false, false, true, false, false, false, false, false, false, false, false, false]) (fuel := 27) (v := ?_) rfl (by kernel_rfl) (by kernel_rfl) (by kernel_rfl) (by kernel_rfl) (by kernel_rfl) (fun _ _ _ h => h) (by kernel_rfl) ?_ (by assumption) ?_
        rotate_left 1
        · (intro wS hSw; (try dsimp only at hSw); go_simp; try with_reducible rfl)
        try simp only [Act.put, List.setIfInBounds_toArray, List.set_cons_zero, List.set_cons_succ]
        refine rg_take (i := 34) (d := some 57) (l := #[true, true, false, false, false, true, true, false, false, false, true, true, false, false, false, true, true, false, false, false, true, true, false, false, false, true, true, true, false, false, false, true, false, false, true, false, false, false, false, false, false]) (fuel := 26) (v := ?_) rfl (by kernel_rfl) (by kernel_rfl) (by kernel_rfl) (by kernel_rfl) (by kernel_rfl) (fun _ _ _ h => h) (by kernel_rfl) ?_ (by assumption) ?_
        rotate_left 1
        · (intro wS hSw; (try dsimp only at hSw); go_simp; try with_reducible rfl)
        try simp only [Act.put, List.setIfInBounds_toArray, List.set_cons_zero, List.set_cons_succ]
        refine rg_take (i := 35) (d := some 58) (l := #[true, true, false, false, false, true, true, false, false, false, true, true, false, false, false, true, true, false, false, false, true, true, false, false, false, true, true, true, false, false, false, true, false, false, true, true, false, false, false, false, false]) (fuel := 25) (v := ?_) rfl (by kernel_rfl) (by kernel_rfl) (by kernel_rfl) (by kernel_rfl) (by kernel_rfl) (fun _ _ _ h => h) (by kernel_rfl) ?_ (by assumption) ?_
        rotate_left 1
        · (intro wS hSw; (try dsimp only at hSw); go_simp; try with_reducible rfl)
        try simp only [Act.put, List.setIfInBounds_toArray, List.set_cons_zero, List.set_cons_succ]
        refine rg_take (i := 38) (d := some 61) (l := #[true, true, false, false, false, true, true, false, false, false, true, true, false, false, false, true, true, false, false, false, true, true, false, false, false, true, true, true, false, false, false, true, false, false, true, true, false, false, true, false, false]) (fuel := 24) (v := ?_) rfl (by kernel_rfl) (by kernel_rfl) (by kernel_rfl) (by kernel_rfl) (by kernel_rfl) (fun _ _ _ h => h) (by kernel_rfl) ?_ (by assumption) ?_
        rotate_left 1
        · (intro wS hSw; (try dsimp only at hSw); go_simp; try with_reducible rfl)
        try simp only [Act.put, List.setIfInBounds_toArray, List.set_cons_zero, List.set_cons_succ]
        refine rg_next (i := 2) (l := #[true, true, true, false, false, true, true, false, false, false, true, true, false, false, false, true, true, false, false, false, true, true, false, false, false, true, true, true, false, false, false, true, false, false, true, true, false, false, true, false, false]) (fuel := 23) (by kernel_rfl) rfl (by kernel_rfl) (by kernel_rfl) (fun K hK => ?_)
        go_simp
        go_at_call 36
        refine (h0 _).mono ?_
        rintro e w' ⟨rfl, rfl⟩
        first | (refine hK.out _ _ ?_ (fun hHeld => ?_)) | (go_wp2_with fail; refine hK.out _ _ ?_ (fun hHeld => ?_))
        · (try dsimp only); exact HS.out
        clear hK K
        try simp only [Act.put, List.setIfInBounds_toArray, List.set_cons_zero, List.set_cons_succ]
        refine rg_take (i := 3) (d := some 26) (l := #[true, true, true, true, false, true, true, false, false, false, true, true, false, false, false, true, true, false, false, false, true, true, false, false, false, true, true, true, false, false, false, true, false, false, true, true, false, false, true, false, false]) (fuel := 22) (v := .string ((⟨#[65, 61]⟩ : ByteArray) ++ t0)) rfl (by kernel_rfl) (by kernel_rfl) (by kernel_rfl) (by kernel_rfl) (by kernel_rfl) (fun _ _ _ h => h) (by kernel_rfl) ?_ (by assumption) ?_
        · (intro wS hSw; (try dsimp only at hSw); (go_simp; try omega))
        try simp only [Act.put, List.setIfInBounds_toArray, List.set_cons_zero, List.set_cons_succ]
        refine rg_take (i := 4) (d := some 27) (l := #[true, true, true, true, true, true, true, false, false, false, true, true, false, false, false, true, true, false, false, false, true, true, false, false, false, true, true, true, false, false, false, true, false, false, true, true, false, false, true, false, false]) (fuel := 21) (v := .string (((⟨#[65, 61]⟩ : ByteArray) ++ t0) ++ (⟨#[32, 88, 61]⟩ : ByteArray))) rfl (by kernel_rfl) (by kernel_rfl) (by kernel_rfl) (by kernel_rfl) (by kernel_rfl) (fun _ _ _ h => h) (by kernel_rfl) ?_ (by assumption) ?_
        · (intro wS hSw; (try dsimp only at hSw); (go_simp; try omega))
        try simp only [Act.put, List.setIfInBounds_toArray, List.set_cons_zero, List.set_cons_succ]
        refine rg_next (i := 7) (l := #[true, true, true, true, true, true, true, true, false, false, true, true, false, false, false, true, true, false, false, false, true, true, false, false, false, true, true, true, false, false, false, true, false, false, true, true, false, false, true, false, false]) (fuel := 20) (by kernel_rfl) rfl (by kernel_rfl) (by kernel_rfl) (fun K hK => ?_)
        go_simp
        go_at_call 36
        refine (h1 _).mono ?_
        rintro e w' ⟨rfl, rfl⟩
        first | (refine hK.out _ _ ?_ (fun hHeld => ?_)) | (go_wp2_with fail; refine hK.out _ _ ?_ (fun hHeld => ?_))
        · (try dsimp only); exact HS.out
        clear hK K
        try simp only [Act.put, List.setIfInBounds_toArray, List.set_cons_zero, List.set_cons_succ]
        refine rg_take (i := 8) (d := some 31) (l := #[true, true, true, true, true, true, true, true, true, false, true, true, false, false, false, true, true, false, false, false, true, true, false, false, false, true, true, true, false, false, false, true, false, false, true, true, false, false, true, false, false]) (fuel := 19) (v := .string ((((⟨#[65, 61]⟩ : ByteArray) ++ t0) ++ (⟨#[32, 88, 61]⟩ : ByteArray)) ++ t1)) rfl (by kernel_rfl) (by kernel_rfl) (by kernel_rfl) (by kernel_rfl) (by kernel_rfl) (fun _ _ _ h => h) (by kernel_rfl) ?_ (by assumption) ?_
        · (intro wS hSw; (try dsimp only at hSw); (go_simp; try omega))
        try simp only [Act.put, List.setIfInBounds_toArray, List.set_cons_zero, List.set_cons_succ]
        refine rg_take (i := 9) (d := some 32) (l := #[true, true, true, true, true, true, true, true, true, true, true, true, false, false, false, true, true, false, false, false, true, true, false, false, false, true, true, true, false, false, false, true, false, false, true, true, false, false, true, false, false]) (fuel := 18) (v := .string (((((⟨#[65, 61]⟩ : ByteArray) ++ t0) ++ (⟨#[32, 88, 61]⟩ : ByteArray)) ++ t1) ++ (⟨#[32, 89, 61]⟩ : ByteArray))) rfl (by kernel_rfl) (by kernel_rfl) (by kernel_rfl) (by kernel_rfl) (by kernel_rfl) (fun _ _ _ h => h) (by kernel_rfl) ?_ (by assumption) ?_
        · (intro wS hSw; (try dsimp only at hSw); (go_simp; try omega))
        try simp only [Act.put, List.setIfInBounds_toArray, List.set_cons_zero, List.set_cons_succ]
        refine rg_next (i := 12) (l := #[true, true, true, true, true, true, true, true, true, true, true, true, true, false, false, true, true, false, false, false, true, true, false, false, false, true, true, true, false, false, false, true, false, false, true, true, false, false, true, false, false]) (fuel := 17) (by kernel_rfl) rfl (by kernel_rfl) (by kernel_rfl) (fun K hK => ?_)
        go_simp
        go_at_call 36
        refine (h2 _).mono ?_
        rintro e w' ⟨rfl, rfl⟩
        first | (refine hK.out _ _ ?_ (fun hHeld => ?_)) | (go_wp2_with fail; refine hK.out _ _ ?_ (fun hHeld => ?_))
        · (try dsimp only); exact HS.out
        clear hK K
        try simp only [Act.put, List.setIfInBounds_toArray, List.set_cons_zero, List.set_cons_succ]
        refine rg_take (i := 13) (d := some 36) (l := #[true, true, true, true, true, true, true, true, true, true, true, true, true, true, false, true, true, false, false, false, true, true, false, false, false, true, true, true, false, false, false, true, false, false, true, true, false, false, true, false, false]) (fuel := 16) (v := .string ((((((⟨#[65, 61]⟩ : ByteArray) ++ t0) ++ (⟨#[32, 88, 61]⟩ : ByteArray)) ++ t1) ++ (⟨#[32, 89, 61]⟩ : ByteArray)) ++ t2)) rfl (by kernel_rfl) (by kernel_rfl) (by kernel_rfl) (by kernel_rfl) (by kernel_rfl) (fun _ _ _ h => h) (by kernel_rfl) ?_ (by assumption) ?_
        · (intro wS hSw; (try dsimp only at hSw); (go_simp; try omega))
        try simp only [Act.put, List.setIfInBounds_toArray, List.set_cons_zero, List.set_cons_succ]
        refine rg_take (i := 14) (d := some 37) (l := #[true, true, true, true, true, true, true, true, true, true, true, true, true, true, true, true, true, false, false, false, true, true, false, false, false, true, true, true, false, false, false, true, false, false, true, true, false, false, true, false, false]) (fuel := 15) (v := .string (((((((⟨#[65, 61]⟩ : ByteArray) ++ t0) ++ (⟨#[32, 88, 61]⟩ : ByteArray)) ++ t1) ++ (⟨#[32, 89, 61]⟩ : ByteArray)) ++ t2) ++ (⟨#[32, 83, 61]⟩ : ByteArray))) rfl (by kernel_rfl) (by kernel_rfl) (by kernel_rfl) (by kernel_rfl) (by kernel_rfl) (fun _ _ _ h => h) (by kernel_rfl) ?_ (by assumption) ?_
        · (intro wS hSw; (try dsimp only at hSw); (go_simp; try omega))
        try simp only [Act.put, List.setIfInBounds_toArray, List.set_cons_zero, List.set_cons_succ]
        refine rg_next (i := 17) (l := #[true, true, true, true, true, true, true, true, true, true, true, true, true, true, true, true, true, true, false, false, true, true, false, false, false, true, true, true, false, false, false, true, false, false, true, true, false, false, true, false, false]) (fuel := 14) (by kernel_rfl) rfl (by kernel_rfl) (by kernel_rfl) (fun K hK => ?_)
        go_simp
        go_at_call 36
        refine (h3 _).mono ?_
        rintro e w' ⟨rfl, rfl⟩
        first | (refine hK.out _ _ ?_ (fun hHeld => ?_)) | (go_wp2_with fail; refine hK.out _ _ ?_ (fun hHeld => ?_))
        · (try dsimp only); exact HS.out
        clear hK K
        try simp only [Act.put, List.setIfInBounds_toArray, List.set_cons_zero, List.set_cons_succ]
        refine rg_take (i := 18) (d := some 41) (l := #[true, true, true, true, true, true, true, true, true, true, true, true, true, true, true, true, true, true, true, false, true, true, false, false, false, true, true, true, false, false, false, true, false, false, true, true, false, false, true, false, false]) (fuel := 13) (v := .string ((((((((⟨#[65, 61]⟩ : ByteArray) ++ t0) ++ (⟨#[32, 88, 61]⟩ : ByteArray)) ++ t1) ++ (⟨#[32, 89, 61]⟩ : ByteArray)) ++ t2) ++ (⟨#[32, 83, 61]⟩ : ByteArray)) ++ t3)) rfl (by kernel_rfl) (by kernel_rfl) (by kernel_rfl) (by kernel_rfl) (by kernel_rfl) (fun _ _ _ h => h) (by kernel_rfl) ?_ (by assumption) ?_
        · (intro wS hSw; (try dsimp only at hSw); (go_simp; try omega))
        try simp only [Act.put, List.setIfInBounds_toArray, List.set_cons_zero, List.set_cons_succ]
        refine rg_take (i := 19) (d := some 42) (l := #[true, true, true, true, true, true, true, true, true, true, true, true, true, true, true, true, true, true, true, true, true, true, false, false, false, true, true, true, false, false, false, true, false, false, true, true, false, false, true, false, false]) (fuel := 12) (v := .string (((((((((⟨#[65, 61]⟩ : ByteArray) ++ t0) ++ (⟨#[32, 88, 61]⟩ : ByteArray)) ++ t1) ++ (⟨#[32, 89, 61]⟩ : ByteArray)) ++ t2) ++ (⟨#[32, 83, 61]⟩ : ByteArray)) ++ t3) ++ (⟨#[32, 80, 61]⟩ : ByteArray))) rfl (by kernel_rfl) (by kernel_rfl) (by kernel_rfl) (by kernel_rfl) (by kernel_rfl) (fun _ _ _ h => h) (by kernel_rfl) ?_ (by assumption) ?_
        · (intro wS hSw; (try dsimp only at hSw); (go_simp; try omega))
        try simp only [Act.put, List.setIfInBounds_toArray, List.set_cons_zero, List.set_cons_succ]
        refine rg_next (i := 22) (l := #[true, true, true, true, true, true, true, true, true, true, true, true, true, true, true, true, true, true, true, true, true, true, true, false, false, true, true, true, false, false, false, true, false, false, true, true, false, false, true, false, false]) (fuel := 11) (by kernel_rfl) rfl (by kernel_rfl) (by kernel_rfl) (fun K hK => ?_)
        go_simp
        go_at_call 37
        refine (h4 _).mono ?_
        rintro e w' ⟨rfl, rfl⟩
        first | (refine hK.out _ _ ?_ (fun hHeld => ?_)) | (go_wp2_with fail; refine hK.out _ _ ?_ (fun hHeld => ?_))
        · (try dsimp only); exact HS.out
        clear hK K
        try simp only [Act.put, List.setIfInBounds_toArray, List.set_cons_zero, List.set_cons_succ]
        refine rg_take (i := 23) (d := some 46) (l := #[true, true, true, true, true, true, true, true, true, true, true, true, true, true, true, true, true, true, true, true, true, true, true, true, false, true, true, true, false, false, false, true, false, false, true, true, false, false, true, false, false]) (fuel := 10) (v := .string ((((((((((⟨#[65, 61]⟩ : ByteArray) ++ t0) ++ (⟨#[32, 88, 61]⟩ : ByteArray)) ++ t1) ++ (⟨#[32, 89, 61]⟩ : ByteArray)) ++ t2) ++ (⟨#[32, 83, 61]⟩ : ByteArray)) ++ t3) ++ (⟨#[32, 80, 61]⟩ : ByteArray)) ++ t4)) rfl (by kernel_rfl) (by kernel_rfl) (by kernel_rfl) (by kernel_rfl) (by kernel_rfl) (fun _ _ _ h => h) (by kernel_rfl) ?_ (by assumption) ?_
        · (intro wS hSw; (try dsimp only at hSw); (go_simp; try omega))
        try simp only [Act.put, List.setIfInBounds_toArray, List.set_cons_zero, List.set_cons_succ]
        refine rg_take (i := 24) (d := some 47) (l := #[true, true, true, true, true, true, true, true, true, true, true, true, true, true, true, true, true, true, true, true, true, true, true, true, true, true, true, true, false, false, false, true, false, false, true, true, false, false, true, false, false]) (fuel := 9) (v := .string (((((((((((⟨#[65, 61]⟩ : ByteArray) ++ t0) ++ (⟨#[32, 88, 61]⟩ : ByteArray)) ++ t1) ++ (⟨#[32, 89, 61]⟩ : ByteArray)) ++ t2) ++ (⟨#[32, 83, 61]⟩ : ByteArray)) ++ t3) ++ (⟨#[32, 80, 61]⟩ : ByteArray)) ++ t4) ++ (⟨#[32, 80, 67, 61]⟩ : ByteArray))) rfl (by kernel_rfl) (by kernel_rfl) (by kernel_rfl) (by kernel_rfl) (by kernel_rfl) (fun _ _ _ h => h) (by kernel_rfl) ?_ (by assumption) ?_
        · (intro wS hSw; (try dsimp only at hSw); (go_simp; try omega))
        try simp only [Act.put, List.setIfInBounds_toArray, List.set_cons_zero, List.set_cons_succ]
        refine rg_next (i := 28) (l := #[true, true, true, true, true, true, true, true, true, true, true, true, true, true, true, true, true, true, true, true, true, true, true, true, true, true, true, true, true, false, false, true, false, false, true, true, false, false, true, false, false]) (fuel := 8) (by kernel_rfl) rfl (by kernel_rfl) (by kernel_rfl) (fun K hK => ?_)
        go_simp
        go_at_call 38
        refine (h5 _).mono ?_
        rintro e w' ⟨rfl, rfl⟩
        first | (refine hK.out _ _ ?_ (fun hHeld => ?_)) | (go_wp2_with fail; refine hK.out _ _ ?_ (fun hHeld => ?_))
        · (try dsimp only); exact HS.out
        clear hK K
        try simp only [Act.put, List.setIfInBounds_toArray, List.set_cons_zero, List.set_cons_succ]
        refine rg_take (i := 29) (d := some 52) (l := #[true, true, true, true, true, true, true, true, true, true, true, true, true, true, true, true, true, true, true, true, true, true, true, true, true, true, true, true, true, true, false, true, false, false, true, true, false, false, true, false, false]) (fuel := 7) (v := .string ((((((((((((⟨#[65, 61]⟩ : ByteArray) ++ t0) ++ (⟨#[32, 88, 61]⟩ : ByteArray)) ++ t1) ++ (⟨#[32, 89, 61]⟩ : ByteArray)) ++ t2) ++ (⟨#[32, 83, 61]⟩ : ByteArray)) ++ t3) ++ (⟨#[32, 80, 61]⟩ : ByteArray)) ++ t4) ++ (⟨#[32, 80, 67, 61]⟩ : ByteArray)) ++ t5)) rfl (by kernel_rfl) (by kernel_rfl) (by kernel_rfl) (by kernel_rfl) (by kernel_rfl) (fun _ _ _ h => h) (by kernel_rfl) ?_ (by assumption) ?_
        · (intro wS hSw; (try dsimp only at hSw); (go_simp; try omega))
        try simp only [Act.put, List.setIfInBounds_toArray, List.set_cons_zero, List.set_cons_succ]
        refine rg_take (i := 30) (d := some 53) (l := #[true, true, true, true, true, true, true, true, true, true, true, true, true, true, true, true, true, true, true, true, true, true, true, true, true, true, true, true, true, true, true, true, false, false, true, true, false, false, true, false, false]) (fuel := 6) (v := .string (((((((((((((⟨#[65, 61]⟩ : ByteArray) ++ t0) ++ (⟨#[32, 88, 61]⟩ : ByteArray)) ++ t1) ++ (⟨#[32, 89, 61]⟩ : ByteArray)) ++ t2) ++ (⟨#[32, 83, 61]⟩ : ByteArray)) ++ t3) ++ (⟨#[32, 80, 61]⟩ : ByteArray)) ++ t4) ++ (⟨#[32, 80, 67, 61]⟩ : ByteArray)) ++ t5) ++ (⟨#[32, 77, 61]⟩ : ByteArray))) rfl (by kernel_rfl) (by kernel_rfl) (by kernel_rfl) (by kernel_rfl) (by kernel_rfl) (fun _ _ _ h => h) (by kernel_rfl) ?_ (by assumption) ?_
        · (intro wS hSw; (try dsimp only at hSw); (go_simp; try omega))
        try simp only [Act.put, List.setIfInBounds_toArray, List.set_cons_zero, List.set_cons_succ]
        refine rg_take (i := 32) (d := some 55) (l := #[true, true, true, true, true, true, true, true, true, true, true, true, true, true, true, true, true, true, true, true, true, true, true, true, true, true, true, true, true, true, true, true, true, false, true, true, false, false, true, false, false]) (fuel := 5) (v := .string ((((((((((((((⟨#[65, 61]⟩ : ByteArray) ++ t0) ++ (⟨#[32, 88, 61]⟩ : ByteArray)) ++ t1) ++ (⟨#[32, 89, 61]⟩ : ByteArray)) ++ t2) ++ (⟨#[32, 83, 61]⟩ : ByteArray)) ++ t3) ++ (⟨#[32, 80, 61]⟩ : ByteArray)) ++ t4) ++ (⟨#[32, 80, 67, 61]⟩ : ByteArray)) ++ t5) ++ (⟨#[32, 77, 61]⟩ : ByteArray)) ++ m)) rfl (by kernel_rfl) (by kernel_rfl) (by kernel_rfl) (by kernel_rfl) (by kernel_rfl) (fun _ _ _ h => h) (by kernel_rfl) ?_ (by assumption) ?_
        · (intro wS hSw; (try dsimp only at hSw); (go_simp; try omega))
        try simp only [Act.put, List.setIfInBounds_toArray, List.set_cons_zero, List.set_cons_succ]
        refine rg_take (i := 33) (d := some 56) (l := #[true, true, true, true, true, true, true, true, true, true, true, true, true, true, true, true, true, true, true, true, true, true, true, true, true, true, true, true, true, true, true, true, true, true, true, true, false, false, true, false, false]) (fuel := 4) (v := .string (((((((((((((((⟨#[65, 61]⟩ : ByteArray) ++ t0) ++ (⟨#[32, 88, 61]⟩ : ByteArray)) ++ t1) ++ (⟨#[32, 89, 61]⟩ : ByteArray)) ++ t2) ++ (⟨#[32, 83, 61]⟩ : ByteArray)) ++ t3) ++ (⟨#[32, 80, 61]⟩ : ByteArray)) ++ t4) ++ (⟨#[32, 80, 67, 61]⟩ : ByteArray)) ++ t5) ++ (⟨#[32, 77, 61]⟩ : ByteArray)) ++ m) ++ (⟨#[32, 76, 61]⟩ : ByteArray))) rfl (by kernel_rfl) (by kernel_rfl) (by kernel_rfl) (by kernel_rfl) (by kernel_rfl) (fun _ _ _ h => h) (by kernel_rfl) ?_ (by assumption) ?_
        · (intro wS hSw; (try dsimp only at hSw); (go_simp; try omega))
        try simp only [Act.put, List.setIfInBounds_toArray, List.set_cons_zero, List.set_cons_succ]
        refine rg_next (i := 36) (l := #[true, true, true, true, true, true, true, true, true, true, true, true, true, true, true, true, true, true, true, true, true, true, true, true, true, true, true, true, true, true, true, true, true, true, true, true, true, false, true, false, false]) (fuel := 3) (by kernel_rfl) rfl (by kernel_rfl) (by kernel_rfl) (fun K hK => ?_)
        go_simp
        go_at_call 36
        refine (h14 _).mono ?_
        rintro e w' ⟨rfl, rfl⟩
        first | (refine hK.out _ _ ?_ (fun hHeld => ?_)) | (go_wp2_with fail; refine hK.out _ _ ?_ (fun hHeld => ?_))
        · (try dsimp only); exact HS.out
        clear hK K
        try simp only [Act.put, List.setIfInBounds_toArray, List.set_cons_zero, List.set_cons_succ]
        refine rg_take (i := 37) (d := some 60) (l := #[true, true, true, true, true, true, true, true, true, true, true, true, true, true, true, true, true, true, true, true, true, true, true, true, true, true, true, true, true, true, true, true, true, true, true, true, true, true, true, false, false]) (fuel := 2) (v := .string ((((((((((((((((⟨#[65, 61]⟩ : ByteArray) ++ t0) ++ (⟨#[32, 88, 61]⟩ : ByteArray)) ++ t1) ++ (⟨#[32, 89, 61]⟩ : ByteArray)) ++ t2) ++ (⟨#[32, 83, 61]⟩ : ByteArray)) ++ t3) ++ (⟨#[32, 80, 61]⟩ : ByteArray)) ++ t4) ++ (⟨#[32, 80, 67, 61]⟩ : ByteArray)) ++ t5) ++ (⟨#[32, 77, 61]⟩ : ByteArray)) ++ m) ++ (⟨#[32, 76, 61]⟩ : ByteArray)) ++ t14)) rfl (by kernel_rfl) (by kernel_rfl) (by kernel_rfl) (by kernel_rfl) (by kernel_rfl) (fun _ _ _ h => h) (by kernel_rfl) ?_ (by assumption) ?_
        · (intro wS hSw; (try dsimp only at hSw); (go_simp; try omega))
        try simp only [Act.put, List.setIfInBounds_toArray, List.set_cons_zero, List.set_cons_succ]
        refine rg_take (i := 39) (d := some 62) (l := #[true, true, true, true, true, true, true, true, true, true, true, true, true, true, true, true, true, true, true, true, true, true, true, true, true, true, true, true, true, true, true, true, true, true, true, true, true, true, true, true, false]) (fuel := 1) (v := .string (((((((((((((((((⟨#[65, 61]⟩ : ByteArray) ++ t0) ++ (⟨#[32, 88, 61]⟩ : ByteArray)) ++ t1) ++ (⟨#[32, 89, 61]⟩ : ByteArray)) ++ t2) ++ (⟨#[32, 83, 61]⟩ : ByteArray)) ++ t3) ++ (⟨#[32, 80, 61]⟩ : ByteArray)) ++ t4) ++ (⟨#[32, 80, 67, 61]⟩ : ByteArray)) ++ t5) ++ (⟨#[32, 77, 61]⟩ : ByteArray)) ++ m) ++ (⟨#[32, 76, 61]⟩ : ByteArray)) ++ t14) ++ (⟨#[32, 115, 108, 111, 119]⟩ : ByteArray))) rfl (by kernel_rfl) (by kernel_rfl) (by kernel_rfl) (by kernel_rfl) (by kernel_rfl) (fun _ _ _ h => h) (by kernel_rfl) ?_ (by assumption) ?_
        · (intro wS hSw; (try dsimp only at hSw); (go_simp; try omega))
        try simp only [Act.put, List.setIfInBounds_toArray, List.set_cons_zero, List.set_cons_succ]
        refine rg_take (i := 40) (d := some 2) (l := #[true, true, true, true, true, true, true, true, true, true, true, true, true, true, true, true, true, true, true, true, true, true, true, true, true, true, true, true, true, true, true, true, true, true, true, true, true, true, true, true, true]) (fuel := 0) (v := ?_) rfl (by kernel_rfl) (by kernel_rfl) (by kernel_rfl) (by kernel_rfl) (by kernel_rfl) (fun _ _ _ h => h) (by kernel_rfl) ?_ (by assumption) ?_
        rotate_left 1
        · (intro wS hSw; (try dsimp only at hSw); go_simp; try with_reducible rfl)
        try simp only [Act.put, List.setIfInBounds_toArray, List.set_cons_zero, List.set_cons_succ]
        refine wpAnyH_done (by kernel_rfl) ?_ _
        clear hHeld
        go_wp2_with fail
        go_ret
        exact ⟨by rw [HT.out]; rfl, B0.out.drew⟩
end Go.Proofs.YtnnfnjbfjgjgnaaDoor
namespace Go.Proofs.YtnnfnjbfjgjgnaaDoor
open Go.RowKit
set_option linter.unusedVariables false
set_option linter.unusedSimpArgs false
set_option maxRecDepth 100000
abbrev bl (s : ByteArray) : List UInt8 := s.data.toList
theorem bl_inj {s t : ByteArray} (h : bl s = bl t) : s = t := by
  cases s; cases t
  simp [bl] at h
  exact congrArg _ h
theorem bl_len (s : ByteArray) : (bl s).length = s.size := Array.length_toList
theorem bl_app (a b : ByteArray) : bl (a ++ b) = bl a ++ bl b := by simp [bl, ByteArray.data_append]
theorem bl_ext (s : ByteArray) (a b : Nat) : bl (s.extract a b) = ((bl s).drop a).take (b - a) := by
  simp [bl, ByteArray.data_extract, Array.toList_extract, List.extract_eq_take_drop]
theorem ext_mid {s x : ByteArray} {A B : List UInt8} {i j : Nat} (h : bl s = A ++ (bl x ++ B)) (hA : A.length = i) (hj : i + x.size = j) : s.extract i j = x := by
  apply bl_inj
  rw [bl_ext, h, List.drop_left' hA, List.take_left' (by rw [bl_len]; omega)]
theorem drop_fit {s : ByteArray} {A B : List UInt8} {n : Nat} (h : bl s = A ++ B) (hA : A.length = n) : bl (dpB s n) = B := by
  have hs : s.size = n + B.length := by rw [← bl_len, h, List.length_append, hA]
  unfold dpB
  rw [bl_ext, show min n s.size = n by omega, h, List.drop_left' hA, List.take_of_length_le (by omega)]
theorem take_fit {s x : ByteArray} {B : List UInt8} {n : Nat} (h : bl s = bl x ++ B) (hx : x.size = n) : tkB s n = x := by
  have hs : s.size = n + B.length := by rw [← bl_len, h, List.length_append, bl_len, hx]
  unfold tkB
  rw [show min n s.size = n by omega]
  exact ext_mid (A := []) (B := B) (by rw [h]; rfl) rfl (by omega)
/-- What is written of the last d registers. -/
def sfx (r : Nat → Int) : Nat → List UInt8
  | 0 => []
  | d + 1 => bl (ahS (15 - d)) ++ (bl (wrS (15 - d) (r (15 - d))) ++ sfx r d)
theorem txB_sfx (r : Nat → Int) (k d : Nat) (h : k + d = 16) : bl (txB r k) ++ sfx r d = bl (txB r 16) := by
  induction d generalizing k with
  | zero =>
    obtain rfl : k = 16 := by omega
    exact List.append_nil _
  | succ d ih =>
    rw [← ih (k + 1) (by omega)]
    simp only [sfx, txB, bl_app]
    rw [show 15 - d = k by omega]
    simp [List.append_assoc]
theorem rsB_of (r : Nat → Int) (k : Nat) (hk : k ≤ 16) : bl (rsB (txB r 16) k) = sfx r (16 - k) := by
  induction k with
  | zero => have := txB_sfx r 0 16 rfl; rw [show bl (txB r 0) = [] from rfl] at this; exact this.symm
  | succ k ih =>
    have ih := ih (by omega)
    rw [show 16 - k = (16 - (k + 1)) + 1 by omega] at ih
    simp only [sfx] at ih
    rw [show 15 - (16 - (k + 1)) = k by omega] at ih
    have h1 := drop_fit (n := ahN k) ih (by rw [bl_len]; rfl)
    exact drop_fit (n := wrN k) h1 (by rw [bl_len, wrS_size])
theorem ttB_of (r : Nat → Int) (k : Nat) (hk : k < 16) : ttB (txB r 16) k = wrS k (r k) := by
  have ih := rsB_of r k (by omega)
  rw [show 16 - k = (15 - k) + 1 by omega] at ih
  simp only [sfx] at ih
  rw [show 15 - (15 - k) = k by omega] at ih
  have h1 := drop_fit (n := ahN k) ih (by rw [bl_len]; rfl)
  exact take_fit h1 (wrS_size _ _)
theorem fh_hexk (n : Int) (k : Nat) (h0 : 0 ≤ n) (k1 : 1 ≤ k) (k8 : k ≤ 8) : fhA (strOfNums (hexL n k)) = (n % 16 ^ k, 0) := by
  have hs : (strOfNums (hexL n k)).size = k := by rw [strOf_size, hexL_len]
  unfold fhA
  rw [if_neg (by omega), if_neg (by omega)]
  have := num_hexL k n h0
  unfold fhR
  rw [strOf_list, this.1, this.2, if_pos rfl]
theorem nbP_of (r : Nat → Int) (hr : StOk r) (k : Nat) (hk : k < 16) : nbP k (wrS k (r k)) = r k := by
  have hb := hr k hk
  unfold nbP wrS
  unfold mostP at hb
  by_cases h4 : k = 4
  · subst h4
    rw [if_pos rfl, if_pos rfl]
    rw [if_neg (by decide), if_neg (by decide)] at hb
    rw [rdI_of _ hb.1 hb.2]
  · rw [if_neg h4, if_neg h4]
    by_cases h5 : k = 5
    · subst h5
      rw [if_pos rfl] at hb
      rw [if_neg (by decide), if_pos rfl, fh_hexk _ 4 hb.1 (by decide) (by decide), v16_mod]
      simp only
      omega
    · rw [if_neg h5]
      rw [if_neg h5] at hb
      by_cases h15 : k = 15
      · subst h15
        rw [if_pos rfl] at hb
        rw [if_pos rfl, if_pos rfl]
        by_cases h0 : r 15 = 0
        · rw [if_pos h0, h0, if_neg (by intro h; exact absurd (congrArg ByteArray.data h) (by decide))]
        · rw [if_neg h0, if_pos rfl]; omega
      · rw [if_neg h15] at hb
        rw [if_neg h15, if_neg h15, fh_hexk _ 2 hb.1 (by decide) (by decide), v16_mod]
        simp only
        omega
theorem rdV_of (r : Nat → Int) (hr : StOk r) (k : Nat) (hk : k < 16) : rdV (txB r 16) k = r k := by
  unfold rdV
  rw [ttB_of r k hk, nbP_of r hr k hk]
theorem txB_congr {r r' : Nat → Int} (k : Nat) (h : ∀ i, i < k → r i = r' i) : txB r k = txB r' k := by
  induction k with
  | zero => rfl
  | succ k ih => simp only [txB]; rw [ih (fun i hi => h i (by omega)), h k (by omega)]
theorem rd_yes (r : Nat → Int) (hr : StOk r) : stA (rdR (txB r 16)) = stA r ∧ rdE (txB r 16) = 0 := by
  have h : txB (rdV (txB r 16)) 16 = txB r 16 := txB_congr 16 fun i hi => rdV_of r hr i hi
  unfold rdR rdE
  rw [if_pos h, if_pos h]
  exact ⟨stA_congr fun i hi => rdV_of r hr i hi, rfl⟩
theorem rd_no (line : ByteArray) (h : ∀ r, StOk r → txB r 16 ≠ line) : rdR line = (fun _ => 0) ∧ rdE line = 3 := by
  unfold rdR rdE
  rw [if_neg (h _ (rdV_ok line)), if_neg (h _ (rdV_ok line))]
  exact ⟨rfl, rfl⟩
theorem mB_sfx (r : Nat → Int) : bl (mB r 8) = bl (wrS 6 (r 6)) ++ (bl (ahS 7) ++ (bl (wrS 7 (r 7)) ++ (bl (ahS 8) ++ (bl (wrS 8 (r 8)) ++ (bl (ahS 9) ++ (bl (wrS 9 (r 9)) ++ (bl (ahS 10) ++ (bl (wrS 10 (r 10)) ++ (bl (ahS 11) ++ (bl (wrS 11 (r 11)) ++ (bl (ahS 12) ++ (bl (wrS 12 (r 12)) ++ (bl (ahS 13) ++ bl (wrS 13 (r 13))))))))))))))) := by
  have e : ∀ k v, k ≠ 4 → k ≠ 5 → k ≠ 15 → wrS k v = hx2 v := fun k v a b c => by unfold wrS; rw [if_neg a, if_neg b, if_neg c]; rfl
  have d : (⟨#[46]⟩ : ByteArray) = ahS 7 := rfl
  simp only [mB, bl_app, if_pos (show 0 < 7 by decide), if_pos (show 0 < 6 by decide), if_pos (show 0 < 5 by decide), if_pos (show 0 < 4 by decide), if_pos (show 0 < 3 by decide), if_pos (show 0 < 2 by decide), if_pos (show 0 < 1 by decide), if_neg (show ¬ 0 < 0 by decide)]
  rw [e 6 _ (by decide) (by decide) (by decide), e 7 _ (by decide) (by decide) (by decide), e 8 _ (by decide) (by decide) (by decide), e 9 _ (by decide) (by decide) (by decide), e 10 _ (by decide) (by decide) (by decide), e 11 _ (by decide) (by decide) (by decide), e 12 _ (by decide) (by decide) (by decide), e 13 _ (by decide) (by decide) (by decide)]
  rw [show ahS 8 = ahS 7 from rfl, show ahS 9 = ahS 7 from rfl, show ahS 10 = ahS 7 from rfl, show ahS 11 = ahS 7 from rfl, show ahS 12 = ahS 7 from rfl, show ahS 13 = ahS 7 from rfl, d]
  simp only [List.append_assoc]
  rfl
theorem rtB_eq (r : Nat → Int) (hr : StOk r) : rtB r = txB r 16 := by
  have e : ∀ k v, k ≠ 4 → k ≠ 5 → k ≠ 15 → wrS k v = hx2 v := fun k v a b c => by unfold wrS; rw [if_neg a, if_neg b, if_neg c]; rfl
  have h15 := hr 15 (by decide)
  have h150 : 0 ≤ r 15 := h15.1
  have h151 : r 15 ≤ 1 := h15.2
  have e15 : bl (if r 15 = 1 then (⟨#[32, 102, 97, 115, 116]⟩ : ByteArray) else ⟨#[32, 115, 108, 111, 119]⟩) = bl (ahS 15) ++ bl (wrS 15 (r 15)) := by
    by_cases h : r 15 = 1
    · rw [if_pos h, h]; rfl
    · rw [if_neg h, show r 15 = 0 by omega]; rfl
  apply bl_inj
  have := txB_sfx r 0 16 rfl
  rw [show bl (txB r 0) = [] from rfl, List.nil_append] at this
  rw [← this]
  simp only [rtB, bl_app, sfx, e15, mB_sfx]
  rw [e 0 _ (by decide) (by decide) (by decide), e 1 _ (by decide) (by decide) (by decide), e 2 _ (by decide) (by decide) (by decide), e 3 _ (by decide) (by decide) (by decide), e 14 _ (by decide) (by decide) (by decide)]
  simp only [List.append_assoc, List.append_nil]
  rfl
end Go.Proofs.YtnnfnjbfjgjgnaaDoor
