/-
  For every input ModesText returns true, and each argument reads behind the call as it read before. The one condition: when the call begins the package-level variables that the row lists hold what the program lays in them (TIED: the card shows it of the text of the project, pruned to the packages that this seat loads).
-/
import Derived.Test.YtdhnnegigjjoeaaDoorRows
import Derived.Test.YtdhnnegigjjoeaaDoorKMD01
import Derived.SevenTiedAt
import Derived.ProofKit
import Derived.LaidMore
import Derived.OpenShut
import Derived.Stop.Joined
import Derived.Test.YtdhnnegigjjoeaaDoorCards
import Derived.Test.YtdhnnegigjjoeaaDoorTie
import Derived.Test.YtdhnnegigjjoeaaDoorKMD37
import Derived.Test.YtdhnnegigjjoeaaDoorKMD38
namespace Go.Proofs.YtdhnnegigjjoeaaDoor.modesText
open Go.ChangeShapes Go.WideShapes Go.ChangeAt Go.RowKit
open Go.ChangeMaps (open_string)

set_option linter.unusedVariables false
set_option linter.unusedSimpArgs false
set_option maxRecDepth 100000 in
set_option maxHeartbeats 8000000 in
theorem walk {W : World} (A : Option Addr) (n c : Nat) (z : Nat → Int) (gc : n ≤ c) (mc : c ≤ maxLen) (R : IRow W .u8 A n z) (a : Int) (wa : (Lit.int .u16 a).wf = true) (hT : Tabs W) :
    Calls Tryd.prog 5 #[.slice A n c, .int .u16 a] W fun e w' => e = .returned (.bool true) ∧ Below W.heap.size W w' := by
  obtain ⟨a0, a1⟩ := bounds_u16 wa
  have HR := Lib.hid R
  have hns : (n : Int) ≤ 9223372036854775807 := by unfold maxLen at mc; omega
  clear hT R mc wa
  by_cases hbig : 300 < n
  · have h1 : (300 : Int) < n := by omega
    go_enter Tryd.func5, Tryd.ntmps5
    go_wp2_with fail
    refine (live24).mono ?_
    rintro e w0 ⟨rfl, b0⟩
    have HB0 := Lib.hid b0
    clear b0
    go_wp2_with fail
    go_ret
    exact ⟨rfl, HB0.out⟩
  · have h1 : ¬ (300 : Int) < n := by omega
    have hr := fun W Q => rtext_any A n c z a a0 a1 gc (by omega) W Q
    have hm := fun W Q => mtext_any A n c z a a0 a1 gc (by omega) W Q
    unfold rtV at hr
    obtain ⟨T0, hT0⟩ : ∃ T, mkS (txU z n a) = T := ⟨_, rfl⟩
    rw [hT0] at hr hm
    have e0 : (T0.toList == T0.toList) = true := beq_self_eq_true _
    generalize (txZ z n : Int) = q0 at hr
    clear hT0
    go_enter Tryd.func5, Tryd.ntmps5
    go_wp2_with fail
    refine (live24).mono ?_
    rintro e w0 ⟨rfl, b0⟩
    have HB0 := Lib.hid b0
    clear b0
    go_wp2_with fail
    refine (hr _ (HR.out.keep HB0.out)).mono ?_
    rintro e w1 ⟨rfl, b⟩
    have HB1 := Lib.hid (HB0.out.trans (b.mono HB0.out.size))
    clear b
    go_wp2_with fail
    refine (hm _ (HR.out.keep HB1.out)).mono ?_
    rintro e w2 ⟨rfl, b⟩
    have HB2 := Lib.hid (HB1.out.trans (b.mono HB1.out.size))
    clear b
    clear hr hm
    go_wp2_with fail
    refine (mlisting_any A n c z a a0 a1 gc (by omega) _ (HR.out.keep HB2.out)).mono ?_
    rintro e w3 ⟨v, m, rfl, own, hall, hend, b⟩
    have HB3 := Lib.hid (HB2.out.trans (b.mono HB2.out.size))
    have hmn := lposN_le z n m hall hend
    have hlv : ∃ p cap, v = .slice p m cap := by
      rcases own.2 with ⟨rfl, rfl⟩ | ⟨g, cap, _, rfl, _⟩
      · exact ⟨_, _, rfl⟩
      · exact ⟨_, _, rfl⟩
    obtain ⟨pv, cap, rfl⟩ := hlv
    have HCL := Lib.hid (lnRow own)
    have HEND := Lib.hid hend
    have HALL := Lib.hid hall
    clear own hall hend b hbig h1
    go_wp2_with fail
    go_loopw [8, 9] (fun k i wr => ∃ j : Nat, j ≤ m ∧ k = .int .i64 j ∧ i = .int .i64 (lposN z n j : Int) ∧ lposN z n j ≤ n ∧ Below w3.heap.size w3 wr) (fun _ i _ => n - (intOf i).toNat)
    case atStart => exact ⟨0, by omega, rfl, rfl, Nat.zero_le _, Below.refl _ _⟩
    case round =>
      obtain ⟨j, hj, rfl, rfl, hpn, hB⟩ := hrel
      have HBR := Lib.hid (HB3.out.trans (hB.mono HB3.out.size))
      have EP : lposN z n (j + 1) = lposN z n j + txZ (fun i => z (i + lposN z n j)) (n - lposN z n j) := rfl
      by_cases hlt : lposN z n j < n
      · have hjm := lposN_lt z n m HEND.out j hj hlt
        obtain ⟨ad1, rfl, had1, hcl1⟩ := HCL.out j hjm
        have hcl2 := (hB.cell (p := ad1.add j) (by rw [block_of_add]; exact had1)).trans hcl1
        obtain ⟨p, hp⟩ : ∃ p, lposN z n j = p := ⟨_, rfl⟩
        rw [hp] at EP hcl2 hlt hpn ⊢
        have hbd := txZ_bd (fun i => z (i + p)) (n - p) (by omega)
        obtain ⟨ad, rfl⟩ := HR.out.ptr (by omega)
        obtain ⟨t, ht⟩ : ∃ t, (a + (p : Int)) % 65536 = t := ⟨_, rfl⟩
        have t0 : 0 ≤ t := by omega
        have t1 : t ≤ 65535 := by omega
        have ev : IntKind.u16.wrap (a + (p : Int)) = t := by rw [u16_mod]; omega
        have ev2 : IntKind.u16.wrap (a + IntKind.u16.wrap (p : Int)) = t := by rw [u16_mod, u16_mod]; omega
        have ev3 : IntKind.u16.wrap (p : Int) = p := by rw [u16_mod]; omega
        have e4 : IntKind.u32.wrap t = t := IntWalk.u32_in _ (by omega)
        have hrow := (HR.out.keep HBR.out).shift p
        have hTx := fun W (Q : IRow W .u8 (some (ad.add p)) (n - p) (fun i => z (i + p))) => rtext_any (some (ad.add p)) (n - p) (c - p) (fun i => z (i + p)) t t0 t1 (by omega) (by omega) W Q
        unfold rtV at hTx
        have hl := txU_len (fun i => z (i + p)) (n - p) t (.inr (by have := hrow.bd 0 (by omega); exact this))
        have eL : mkS (hxU (t / 256) ++ hxU (t % 256)) ++ ⟨#[58, 32]⟩ ++ mkS (txU (fun i => z (i + p)) (n - p) t) = mkS (lnU z n a p) := by
          show _ ++ mkS [58, 32] ++ _ = _
          rw [mkS_cat, mkS_cat]
          unfold lnU
          rw [ht]
        have hH := fun W => rhex4_any t t0 t1 W
        have sX : (mkS (hxU (t / 256) ++ hxU (t % 256))).size = 4 := by rw [mkS_size', List.length_append, hxU_len, hxU_len]
        obtain ⟨X, hX⟩ : ∃ X, mkS (hxU (t / 256) ++ hxU (t % 256)) = X := ⟨_, rfl⟩
        obtain ⟨T, hT⟩ : ∃ T, mkS (txU (fun i => z (i + p)) (n - p) t) = T := ⟨_, rfl⟩
        obtain ⟨L, hL⟩ : ∃ L, mkS (lnU z n a p) = L := ⟨_, rfl⟩
        have sT : T.size ≤ 30 := by rw [← hT, mkS_size']; exact hl
        rw [hX] at hH sX eL
        rw [hT] at hTx eL
        rw [hL] at eL hcl2
        have sXX : (X ++ ⟨#[58, 32]⟩).size = 6 := by rw [ByteArray.size_append, sX]; rfl
        have hq : (L.toList == (X ++ ⟨#[58, 32]⟩ ++ T).toList) = true := by rw [eL]; exact beq_self_eq_true _
        obtain ⟨s, hs⟩ : ∃ s, txZ (fun i => z (i + p)) (n - p) = s := ⟨_, rfl⟩
        rw [hs] at hTx EP hbd
        have j0 : (0 : Int) ≤ j := by omega
        have j1 : (j : Int) < m := by omega
        have p0 : (0 : Int) ≤ p := by omega
        have p1 : (p : Int) < n := by omega
        have p2 : (p : Int) ≤ c := by omega
        have p3 : IntKind.i64.wrap ((p : Int) + s) = p + s := IntWalk.i64_in _ (by omega)
        have HEP := Lib.hid EP
        have HBW := Lib.hid (Below.refl w3.heap.size w3 |>.trans hB)
        clear EP hB hp hl hX hT hL hs hcl1 had1 ht eL
        go_wp2_with fail
        refine (hTx _ hrow).mono ?_
        rintro e w5 ⟨rfl, b⟩
        have hcl3 := (b.cell (by exact cell_lt hcl2)).trans hcl2
        have HB5 := Lib.hid (HBW.out.trans (b.mono HBW.out.size))
        clear b hcl2 hrow hTx
        have hg : decide ((m : Int) ≤ (j : Int)) = false := decide_eq_false (by omega)
        have hH2 := fun W => (hH W).mono fun e w' h => (⟨h.1, h.2.symm⟩ : e = .returned (.string X) ∧ w' = W)
        have sL : (X ++ ⟨#[58, 32]⟩ ++ T).size ≤ 36 := by rw [ByteArray.size_append, sXX]; omega
        go_wp2_with fail
        refine rg_begin (S := fun w' => Below w5.heap.size w5 w' ∧ w'.cell? (ad1.add j) = some (.string L)) 20 #[false, false, false, false, false, false, false, false, false, false, false, false, false, false, false, false, false, false, false, false] (by kernel_rfl) (by kernel_rfl) (by kernel_rfl) ?_ (fun hHeld => ?_)
        · exact ⟨(Below.refl _ w5).drew, hcl3⟩
        refine rg_take (i := 0) (d := some 46) (l := #[true, false, false, false, false, false, false, false, false, false, false, false, false, false, false, false, false, false, false, false]) (fuel := 19) (v := ?_) rfl (by kernel_rfl) (by kernel_rfl) (by kernel_rfl) (by kernel_rfl) (by kernel_rfl) (fun _ _ _ h => h) (by kernel_rfl) ?_ (by assumption) ?_
        rotate_left 1
        · (intro wS hSw; (try dsimp only at hSw); go_simp; try with_reducible rfl)
        try simp only [Act.put, List.setIfInBounds_toArray, List.set_cons_zero, List.set_cons_succ]
        refine rg_take (i := 1) (d := some 47) (l := #[true, true, false, false, false, false, false, false, false, false, false, false, false, false, false, false, false, false, false, false]) (fuel := 18) (v := ?_) rfl (by kernel_rfl) (by kernel_rfl) (by kernel_rfl) (by kernel_rfl) (by kernel_rfl) (fun _ _ _ h => h) (by kernel_rfl) ?_ (by assumption) ?_
        rotate_left 1
        · (intro wS hSw; (try dsimp only at hSw); go_simp; try with_reducible rfl)
        try simp only [Act.put, List.setIfInBounds_toArray, List.set_cons_zero, List.set_cons_succ]
        refine rg_take (i := 2) (d := some 48) (l := #[true, true, true, false, false, false, false, false, false, false, false, false, false, false, false, false, false, false, false, false]) (fuel := 17) (v := ?_) rfl (by kernel_rfl) (by kernel_rfl) (by kernel_rfl) (by kernel_rfl) (by kernel_rfl) (fun _ _ _ h => h) (by kernel_rfl) ?_ (by assumption) ?_
        rotate_left 1
        · (intro wS hSw; (try dsimp only at hSw); go_simp; try with_reducible rfl)
        try simp only [Act.put, List.setIfInBounds_toArray, List.set_cons_zero, List.set_cons_succ]
        refine rg_take (i := 3) (d := some 49) (l := #[true, true, true, true, false, false, false, false, false, false, false, false, false, false, false, false, false, false, false, false]) (fuel := 16) (v := .bool false) rfl (by kernel_rfl) (by kernel_rfl) (by kernel_rfl) (by kernel_rfl) (by kernel_rfl) (fun _ _ _ h => h) (by kernel_rfl) ?_ (by assumption) ?_
        · (intro wS hSw; (try dsimp only at hSw); (go_simp; try (first | exact hg | omega)))
        try simp only [Act.put, List.setIfInBounds_toArray, List.set_cons_zero, List.set_cons_succ]
        refine rg_take (i := 4) (d := some 50) (l := #[true, true, true, true, true, false, false, false, false, false, false, false, false, false, false, false, false, false, false, false]) (fuel := 15) (v := ?_) rfl (by kernel_rfl) (by kernel_rfl) (by kernel_rfl) (by kernel_rfl) (by kernel_rfl) (fun _ _ _ h => h) (by kernel_rfl) ?_ (by assumption) ?_
        rotate_left 1
        · (intro wS hSw; (try dsimp only at hSw); go_simp; try with_reducible rfl)
        try simp only [Act.put, List.setIfInBounds_toArray, List.set_cons_zero, List.set_cons_succ]
        refine rg_take (i := 5) (d := some 51) (l := #[true, true, true, true, true, true, false, false, false, false, false, false, false, false, false, false, false, false, false, false]) (fuel := 14) (v := ?_) rfl (by kernel_rfl) (by kernel_rfl) (by kernel_rfl) (by kernel_rfl) (by kernel_rfl) (fun _ _ _ h => h) (by kernel_rfl) ?_ (by assumption) ?_
        rotate_left 1
        · (intro wS hSw; (try dsimp only at hSw); go_simp; try with_reducible rfl)
        try simp only [Act.put, List.setIfInBounds_toArray, List.set_cons_zero, List.set_cons_succ]
        refine rg_take (i := 6) (d := some 52) (l := #[true, true, true, true, true, true, true, false, false, false, false, false, false, false, false, false, false, false, false, false]) (fuel := 13) (v := ?_) rfl (by kernel_rfl) (by kernel_rfl) (by kernel_rfl) (by kernel_rfl) (by kernel_rfl) (fun _ _ _ h => h) (by kernel_rfl) ?_ (by assumption) ?_
        rotate_left 1
        · (intro wS hSw; (try dsimp only at hSw); go_simp; try with_reducible rfl)
        try simp only [Act.put, List.setIfInBounds_toArray, List.set_cons_zero, List.set_cons_succ]
        refine rg_take (i := 7) (d := some 53) (l := #[true, true, true, true, true, true, true, true, false, false, false, false, false, false, false, false, false, false, false, false]) (fuel := 12) (v := ?_) rfl (by kernel_rfl) (by kernel_rfl) (by kernel_rfl) (by kernel_rfl) (by kernel_rfl) (fun _ _ _ h => h) (by kernel_rfl) ?_ (by assumption) ?_
        rotate_left 1
        · (intro wS hSw; (try dsimp only at hSw); go_simp; try with_reducible rfl)
        try simp only [Act.put, List.setIfInBounds_toArray, List.set_cons_zero, List.set_cons_succ]
        refine rg_take (i := 8) (d := some 54) (l := #[true, true, true, true, true, true, true, true, true, false, false, false, false, false, false, false, false, false, false, false]) (fuel := 11) (v := ?_) rfl (by kernel_rfl) (by kernel_rfl) (by kernel_rfl) (by kernel_rfl) (by kernel_rfl) (fun _ _ _ h => h) (by kernel_rfl) ?_ (by assumption) ?_
        rotate_left 1
        · (intro wS hSw; (try dsimp only at hSw); go_simp; try with_reducible rfl)
        try simp only [Act.put, List.setIfInBounds_toArray, List.set_cons_zero, List.set_cons_succ]
        refine rg_take (i := 9) (d := some 55) (l := #[true, true, true, true, true, true, true, true, true, true, false, false, false, false, false, false, false, false, false, false]) (fuel := 10) (v := ?_) rfl (by kernel_rfl) (by kernel_rfl) (by kernel_rfl) (by kernel_rfl) (by kernel_rfl) (fun _ _ _ h => h) (by kernel_rfl) ?_ (by assumption) ?_
        rotate_left 1
        · (intro wS hSw; (try dsimp only at hSw); go_simp; try with_reducible rfl)
        try simp only [Act.put, List.setIfInBounds_toArray, List.set_cons_zero, List.set_cons_succ]
        refine rg_take (i := 10) (d := some 56) (l := #[true, true, true, true, true, true, true, true, true, true, true, false, false, false, false, false, false, false, false, false]) (fuel := 9) (v := ?_) rfl (by kernel_rfl) (by kernel_rfl) (by kernel_rfl) (by kernel_rfl) (by kernel_rfl) (fun _ _ _ h => h) (by kernel_rfl) ?_ (by assumption) ?_
        rotate_left 1
        · (intro wS hSw; (try dsimp only at hSw); go_simp; try with_reducible rfl)
        try simp only [Act.put, List.setIfInBounds_toArray, List.set_cons_zero, List.set_cons_succ]
        refine rg_take (i := 11) (d := some 57) (l := #[true, true, true, true, true, true, true, true, true, true, true, true, false, false, false, false, false, false, false, false]) (fuel := 8) (v := ?_) rfl (by kernel_rfl) (by kernel_rfl) (by kernel_rfl) (by kernel_rfl) (by kernel_rfl) (fun _ _ _ h => h) (by kernel_rfl) ?_ (by assumption) ?_
        rotate_left 1
        · (intro wS hSw; (try dsimp only at hSw); go_simp; try with_reducible rfl)
        try simp only [Act.put, List.setIfInBounds_toArray, List.set_cons_zero, List.set_cons_succ]
        refine rg_take (i := 12) (d := some 58) (l := #[true, true, true, true, true, true, true, true, true, true, true, true, true, false, false, false, false, false, false, false]) (fuel := 7) (v := ?_) rfl (by kernel_rfl) (by kernel_rfl) (by kernel_rfl) (by kernel_rfl) (by kernel_rfl) (fun _ _ _ h => h) (by kernel_rfl) ?_ (by assumption) ?_
        rotate_left 1
        · (intro wS hSw; (try dsimp only at hSw); go_simp; try with_reducible rfl)
        try simp only [Act.put, List.setIfInBounds_toArray, List.set_cons_zero, List.set_cons_succ]
        refine rg_take (i := 13) (d := some 59) (l := #[true, true, true, true, true, true, true, true, true, true, true, true, true, true, false, false, false, false, false, false]) (fuel := 6) (v := ?_) rfl (by kernel_rfl) (by kernel_rfl) (by kernel_rfl) (by kernel_rfl) (by kernel_rfl) (fun _ _ _ h => h) (by kernel_rfl) ?_ (by assumption) ?_
        rotate_left 1
        · (intro wS hSw; (try dsimp only at hSw); go_simp; try with_reducible rfl)
        try simp only [Act.put, List.setIfInBounds_toArray, List.set_cons_zero, List.set_cons_succ]
        refine rg_take (i := 16) (d := some 62) (l := #[true, true, true, true, true, true, true, true, true, true, true, true, true, true, false, false, true, false, false, false]) (fuel := 5) (v := ?_) rfl (by kernel_rfl) (by kernel_rfl) (by kernel_rfl) (by kernel_rfl) (by kernel_rfl) (fun _ _ _ h => h) (by kernel_rfl) ?_ (by assumption) ?_
        rotate_left 1
        · (intro wS hSw; (try dsimp only at hSw); go_simp; try with_reducible rfl)
        try simp only [Act.put, List.setIfInBounds_toArray, List.set_cons_zero, List.set_cons_succ]
        refine rg_next (i := 14) (l := #[true, true, true, true, true, true, true, true, true, true, true, true, true, true, true, false, true, false, false, false]) (fuel := 4) (by kernel_rfl) rfl (by kernel_rfl) (by kernel_rfl) (fun K hK => ?_)
        go_simp
        (go_at_call 22)
        refine (hH _).mono ?_
        rintro e w' ⟨rfl, rfl⟩
        first | (refine hK.out _ _ ?_ (fun hHeld => ?_)) | (go_wp2_with fail; refine hK.out _ _ ?_ (fun hHeld => ?_))
        · (try dsimp only); exact hHeld
        clear hK K
        try simp only [Act.put, List.setIfInBounds_toArray, List.set_cons_zero, List.set_cons_succ]
        refine rg_take (i := 15) (d := some 61) (l := #[true, true, true, true, true, true, true, true, true, true, true, true, true, true, true, true, true, false, false, false]) (fuel := 3) (v := .string (X ++ ⟨#[58, 32]⟩)) rfl (by kernel_rfl) (by kernel_rfl) (by kernel_rfl) (by kernel_rfl) (by kernel_rfl) (fun _ _ _ h => h) (by kernel_rfl) ?_ (by assumption) ?_
        · (intro wS hSw; (try dsimp only at hSw); (go_simp; try omega))
        try simp only [Act.put, List.setIfInBounds_toArray, List.set_cons_zero, List.set_cons_succ]
        refine rg_take (i := 17) (d := some 63) (l := #[true, true, true, true, true, true, true, true, true, true, true, true, true, true, true, true, true, true, false, false]) (fuel := 2) (v := .string (X ++ ⟨#[58, 32]⟩ ++ T)) rfl (by kernel_rfl) (by kernel_rfl) (by kernel_rfl) (by kernel_rfl) (by kernel_rfl) (fun _ _ _ h => h) (by kernel_rfl) ?_ (by assumption) ?_
        · (intro wS hSw; (try dsimp only at hSw); (go_simp; try omega))
        try simp only [Act.put, List.setIfInBounds_toArray, List.set_cons_zero, List.set_cons_succ]
        refine rg_take (i := 18) (d := some 64) (l := #[true, true, true, true, true, true, true, true, true, true, true, true, true, true, true, true, true, true, true, false]) (fuel := 1) (v := ?_) rfl (by kernel_rfl) (by kernel_rfl) (by kernel_rfl) (by kernel_rfl) (by kernel_rfl) (fun _ _ _ h => h) (by kernel_rfl) ?_ (by assumption) ?_
        rotate_left 1
        · (intro wS hSw; (try dsimp only at hSw); go_simp; try with_reducible rfl)
        try simp only [Act.put, List.setIfInBounds_toArray, List.set_cons_zero, List.set_cons_succ]
        refine rg_take (i := 19) (d := some 65) (l := #[true, true, true, true, true, true, true, true, true, true, true, true, true, true, true, true, true, true, true, true]) (fuel := 0) (v := ?_) rfl (by kernel_rfl) (by kernel_rfl) (by kernel_rfl) (by kernel_rfl) (by kernel_rfl) (fun _ _ _ h => h) (by kernel_rfl) ?_ (by assumption) ?_
        rotate_left 1
        · (intro wS hSw; (try dsimp only at hSw); go_simp; try with_reducible rfl)
        try simp only [Act.put, List.setIfInBounds_toArray, List.set_cons_zero, List.set_cons_succ]
        refine wpAnyH_done (by kernel_rfl) ?_ _
        go_wp2_with fail
        go_roundw
        case rel => exact ⟨j + 1, by omega, by go_num, by rw [HEP.out]; go_num, by rw [HEP.out]; omega, HB5.out.trans (hHeld.1.mono HB5.out.size)⟩
        case measure => simp [intOf]; omega
      · have hjn : ¬ j < m := fun h => absurd (HALL.out j h) hlt
        obtain rfl : j = m := by omega
        have hpe : lposN z n j = n := HEND.out
        rw [hpe]
        have k0 : ¬ (n : Int) < n := by omega
        have k1 : ((j : Int) == j) = true := beq_self_eq_true _
        clear EP hB hlt hpe hpn
        go_wp2_with fail
        go_ret
        exact ⟨rfl, HBR.out⟩

theorem own : ownKnob Tryd.prog.godebug = none := by kernel_rfl
theorem laidOut : laidOutB Tryd.prog = true := by kernel_rfl
set_option maxRecDepth 100000 in
theorem lifted (os : Os) (started : os.Started) (H : Type) (enc : TypeId × Value → H) :
    ReturnsInHanded {} Tryd.checked os 5 .any (fun w args => (Rows.modesTextSpec.pre enc Tryd.prog Tryd.f5 [] false w args ∧ laidMetH Tryd.prog laid2 w) ∧ sizedMet enc Tryd.prog Tryd.f5 (OpenSpec.ofChange Rows.modesTextSpec) false w args)
      (Rows.modesTextSpec.post enc Tryd.prog Tryd.f5 false true false false) := by
  refine returnsInHanded_of_change_and (C := Tryd.checked) (X := fun w _ => laidMetH Tryd.prog laid2 w) (fun _ _ _ hh h => h.of_heap hh) own started (by kernel_rfl) Tryd.func5
    (ChangeSpec.witness_shaped (enc := enc) (C := Tryd.checked) (os := os) (X := fun w _ => laidMetH Tryd.prog laid2 w) false (World.laidAll Tryd.prog os laid2) #[.slice none 0 0, .int .u16 0] 8 (World.laidAll_os _ _ _) (World.shaped_of_ZipB (by kernel_rfl) (by kernel_rfl)) (by kernel_rfl) (by kernel_rfl) (by kernel_rfl) (by rw [MakeChecks.laidMetH_plain _ _ _ (by kernel_rfl)]; exact laidMet_laidAll _ (by kernel_rfl) (by kernel_rfl))) ?_
  intro W base args ds gs before hval0 hW _ _ hL0 _
  have hL : laidMetH Tryd.prog laid2 W := hL0
  rw [MakeChecks.laidMetH_plain _ _ _ (by kernel_rfl)] at hL
  have HT := of_laid hL
  have hval : ∀ (j : Nat) t v, Tryd.f5.params[j]? = some t → args[j]? = some v → Value.okWide Tryd.prog W .any base t v := hval0
  have hW' := hW
  obtain ⟨p, q, hA0, hV, rfl, _, _⟩ := hW
  have hA : DataW.TrodAll enc Tryd.prog W 0 (fun _ => true) true Tryd.f5.params.toList args.toList ds p := hA0
  rw [Tryd.params5] at hA hval
  obtain ⟨v0, vs0, d0, ds0, p0, q0, hargs, rfl, rfl, h0, r0⟩ := trodAll_cons hA
  obtain ⟨v1, vs1, d1, ds1, p1, q1, rfl, rfl, rfl, h1, r1⟩ := trodAll_cons r0
  obtain ⟨rfl, rfl, rfl⟩ := trodAll_nil r1
  obtain rfl : args = #[v0, v1] := by cases args; simp_all
  obtain ⟨rfl, rfl⟩ := trodVars_none hV
  obtain ⟨A0, n0, c0, z0, rfl, g0, m0, R0⟩ := slice_ints Tryd.underlying22 Tryd.underlying5 (by kernel_rfl) (hval 0 22 v0 rfl rfl) h0
  obtain ⟨a1, rfl, rfl, rfl, w1⟩ := open_int Tryd.underlying23 (hval 1 23 v1 rfl rfl) h1
  clear hA0 hval0
  refine (walk A0 n0 c0 z0 g0 m0 R0 a1 w1 HT).mono fun e W' ⟨he, hg⟩ => ?_
  subst he
  exact ⟨_, rfl, law_post rfl Tryd.underlying4 laidOut (by kernel_rfl) rfl hW' rfl hg⟩

theorem over : Rows.modesTextRow.holds Tryd.pinned (OpenSpec.ofChange Rows.modesTextSpec) :=
  OpenClaim.holds_of_wide 5 Tryd.f5 rfl rfl rfl rfl rfl rfl rfl ⟨rfl, rfl, rfl, rfl, rfl⟩ rfl rfl rfl rfl rfl (by kernel_rfl) Tryd.func5 (by kernel_rfl)
    (of_decide_eq_true (by kernel_rfl)) (by unfold Func.isWrapper; first | (rw [if_pos (by decide +kernel)]; kernel_rfl) | (rw [if_neg (by decide +kernel)]; exact ⟨rfl, rfl⟩))
    (fun os started H enc _ => lifted os started H enc)

theorem proved : Rows.ModesTextCardSaid :=
  Claim7.holds_tied_plain_at .later [] [.data, .pinned] true _ false
    over (fun _ h => by cases h) (by kernel_rfl) (fun _ h => by cases h) modesText_row_tie rfl ⟨rfl, rfl⟩ (by kernel_rfl) rfl
    (fun f fn hf hfn => by
      obtain rfl : f = 5 := Option.some.inj ((show Tryd.prog.funcNamed "gannet/gannetlaw24.ModesText" = some 5 by kernel_rfl).symm.trans hf) |>.symm
      obtain rfl : fn = Tryd.f5 := (Option.some.inj (Tryd.func5.symm.trans hfn)).symm
      exact ⟨by kernel_rfl, fun j t ht => by
        rw [Tryd.params5] at ht
        have hm : t ∈ [22, 23] := by simpa using Array.mem_of_getElem? ht
        have hall : ([22, 23].all fun u => !Tryd.prog.wantsStandIn u) = true := by kernel_rfl
        exact (show Tryd.prog.wantsStandIn t = false by simpa using List.all_eq_true.1 hall t hm)⟩)
    (by kernel_rfl)
#print axioms proved
end Go.Proofs.YtdhnnegigjjoeaaDoor.modesText
