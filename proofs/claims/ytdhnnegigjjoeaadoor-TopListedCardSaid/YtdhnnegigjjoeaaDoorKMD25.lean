/-
  Texts of these proofs, one behind the other: Mod3, Mod4, Mod5, Mod6, Rmd1, Rmd2.
-/
import Derived.Test.YtdhnnegigjjoeaaDoorKMD15
import Derived.Test.YtdhnnegigjjoeaaDoorKMD24
import Derived.Test.YtdhnnegigjjoeaaDoorKMD14
import Derived.Test.YtdhnnegigjjoeaaDoorKMD17
import Derived.Deep.QuietTactic
import Derived.BigQuiet
namespace Go.Proofs.YtdhnnegigjjoeaaDoor
open Go.RowKit
set_option linter.unusedVariables false
set_option linter.unusedSimpArgs false
set_option maxRecDepth 100000
def zpP (a : Int) : Array Value := #[.int .u16 (8192 + a), .int .u16 (8192 + (a + 1) % 256), .bool true]
def wpP (a : Int) : Array Value := #[.int .u16 a, .int .u16 ((a + 1) % 65536), .bool true]
/-- Where both bytes of a word are that one goes through. -/
def ptrP (m n : Nat) (z : Nat → Int) (x : Int) : Array Value :=
  if (n : Int) = mbP m ∧ m = 9 then zpP ((z 0 + x) % 256) else if (n : Int) = mbP m ∧ (m = 8 ∨ m = 10) then zpP (z 0)
  else if (n : Int) = mbP m ∧ m = 18 then wpP ((z 0 + 256 * z 1 + x) % 65536) else if (n : Int) = mbP m ∧ m = 17 then wpP (z 0 + 256 * z 1)
  else #[.int .u16 0, .int .u16 0, .bool false]
theorem u8_mod (n : Int) : IntKind.u8.wrap n = n % 256 := by rw [IntKind.wrap_u8]
set_option maxHeartbeats 4000000 in
theorem mptr_any (m : Nat) (A : Option Addr) (n c : Nat) (z : Nat → Int) (x : Int) (x0 : 0 ≤ x) (x1 : x ≤ 255) (w : World) (R : IRow w .u8 A n z) : Calls Tryd.prog 8 #[.int .u8 (m : Int), .slice A n c, .int .u8 x] w fun e w' => e = .returned (.tuple (ptrP m n z x)) ∧ Below w.heap.size w w' := by
  have hB := mbehind_any m
  obtain ⟨r, hr⟩ : ∃ r, ptrP m n z x = r := ⟨_, rfl⟩
  rw [hr]
  have HR := Lib.hid hr
  obtain ⟨q, hq⟩ : ∃ q, mbP m = q := ⟨_, rfl⟩
  rw [hq] at hB
  have HQ := Lib.hid hq
  clear hq hr
  by_cases hn : (n : Int) = q
  · by_cases h9 : m = 9
    · subst h9
      obtain rfl : q = 1 := HQ.out.symm.trans (by decide)
      obtain rfl : n = 1 := by omega
      obtain rfl : zpP ((z 0 + x) % 256) = r := HR.out
      obtain ⟨ad, rfl, hl, hc0, hw⟩ := R 0 (by omega)
      obtain ⟨z0, z1⟩ := bounds_u8 hw
      have hc1 : w.cell? ad = some (.int .u8 (z 0)) := hc0
      obtain ⟨p, hp⟩ : ∃ p, (z 0 + x) % 256 = p := ⟨_, rfl⟩
      have e0 : IntKind.u8.wrap (z 0 + x) = p := by rw [u8_mod]; omega
      have e1 : IntKind.u8.wrap (p + 1) = (p + 1) % 256 := u8_mod _
      have p0 : 0 ≤ p := by omega
      have p1 : p ≤ 255 := by omega
      rw [hp]
      clear hp
      clear hn HQ HR hc0
      go_enter Tryd.func8, Tryd.ntmps8
      go_wp2_with (first
        | (go_at_call 12; refine (hB _).mono ?_; rintro e w' ⟨rfl, rfl⟩)
        | (go_at_call 27; refine (mzero_any _ (by omega) (by omega) _).mono ?_; rintro e w' ⟨rfl, rfl⟩))
      go_ret3
      exact ⟨by first | rfl | (simp only [e0, e1]; rfl) | (simp [e0, e1, wpP, zpP]), by first | exact Below.refl _ _ | exact (Below.refl _ w).drew⟩
    · by_cases h8 : m = 8
      · subst h8
        obtain rfl : q = 1 := HQ.out.symm.trans (by decide)
        obtain rfl : n = 1 := by omega
        obtain rfl : zpP (z 0) = r := HR.out
        obtain ⟨ad, rfl, hl, hc0, hw⟩ := R 0 (by omega)
        obtain ⟨z0, z1⟩ := bounds_u8 hw
        have hc1 : w.cell? ad = some (.int .u8 (z 0)) := hc0
        have e1 : IntKind.u8.wrap (z 0 + 1) = (z 0 + 1) % 256 := u8_mod _
        clear hn HQ HR hc0
        go_enter Tryd.func8, Tryd.ntmps8
        go_wp2_with (first
          | (go_at_call 12; refine (hB _).mono ?_; rintro e w' ⟨rfl, rfl⟩)
          | (go_at_call 27; refine (mzero_any _ (by omega) (by omega) _).mono ?_; rintro e w' ⟨rfl, rfl⟩))
        go_ret3
        exact ⟨by first | rfl | (simp only [e0, e1]; rfl) | (simp [e0, e1, wpP, zpP]), by first | exact Below.refl _ _ | exact (Below.refl _ w).drew⟩
      · by_cases h10 : m = 10
        · subst h10
          obtain rfl : q = 1 := HQ.out.symm.trans (by decide)
          obtain rfl : n = 1 := by omega
          obtain rfl : zpP (z 0) = r := HR.out
          obtain ⟨ad, rfl, hl, hc0, hw⟩ := R 0 (by omega)
          obtain ⟨z0, z1⟩ := bounds_u8 hw
          have hc1 : w.cell? ad = some (.int .u8 (z 0)) := hc0
          have e1 : IntKind.u8.wrap (z 0 + 1) = (z 0 + 1) % 256 := u8_mod _
          clear hn HQ HR hc0
          go_enter Tryd.func8, Tryd.ntmps8
          go_wp2_with (first
            | (go_at_call 12; refine (hB _).mono ?_; rintro e w' ⟨rfl, rfl⟩)
            | (go_at_call 27; refine (mzero_any _ (by omega) (by omega) _).mono ?_; rintro e w' ⟨rfl, rfl⟩))
          go_ret3
          exact ⟨by first | rfl | (simp only [e0, e1]; rfl) | (simp [e0, e1, wpP, zpP]), by first | exact Below.refl _ _ | exact (Below.refl _ w).drew⟩
        · by_cases h18 : m = 18
          · subst h18
            obtain rfl : q = 2 := HQ.out.symm.trans (by decide)
            obtain rfl : n = 2 := by omega
            obtain rfl : wpP ((z 0 + 256 * z 1 + x) % 65536) = r := HR.out
            obtain ⟨ad, rfl, hl, hc0, hw⟩ := R 0 (by omega)
            obtain ⟨z0, z1⟩ := bounds_u8 hw
            obtain ⟨ad', had, hl', hc2, hw'⟩ := R 1 (by omega)
            obtain rfl : ad = ad' := Option.some.inj had
            obtain ⟨z2, z3⟩ := bounds_u8 hw'
            have hc1 : w.cell? ad = some (.int .u8 (z 0)) := hc0
            have hc3 : w.cell? ⟨ad.block, ad.off + 1, none⟩ = some (.int .u8 (z 1)) := hc2
            have hW := wordI_eq (z 0) (z 1) z0 z1 z2 z3
            obtain ⟨g, hg⟩ : ∃ g, z 0 + 256 * z 1 = g := ⟨_, rfl⟩
            rw [hg] at hW
            have g0 : 0 ≤ g := by omega
            have g1 : g ≤ 65535 := by omega
            have u0 : IntKind.u16.wrap x = x := by rw [u16_mod]; omega
            obtain ⟨p, hp⟩ : ∃ p, (g + x) % 65536 = p := ⟨_, rfl⟩
            have e0 : IntKind.u16.wrap (g + x) = p := by rw [u16_mod]; omega
            have e1 : IntKind.u16.wrap (p + 1) = (p + 1) % 65536 := u16_mod _
            rw [hg, hp]
            clear hp hg
            clear hn HQ HR hc0 hc2
            go_enter Tryd.func8, Tryd.ntmps8
            go_wp2_with (first
              | (go_at_call 12; refine (hB _).mono ?_; rintro e w' ⟨rfl, rfl⟩))
            refine rg_begin (S := fun w' => w'.cell? ad = some (.int .u8 (z 0)) ∧ w'.cell? ⟨ad.block, ad.off + 1, none⟩ = some (.int .u8 (z 1))) 11 #[false, false, false, false, false, false, false, false, false, false, false] (by kernel_rfl) (by kernel_rfl) (by kernel_rfl) ?_ (fun hHeld => ?_)
            · exact ⟨hc1, hc3⟩
            refine rg_take (i := 0) (d := some 39) (l := #[true, false, false, false, false, false, false, false, false, false, false]) (fuel := 10) (v := ?_) rfl (by kernel_rfl) (by kernel_rfl) (by kernel_rfl) (by kernel_rfl) (by kernel_rfl) (fun _ _ _ h => h) (by kernel_rfl) ?_ (by assumption) ?_
            rotate_left 1
            · (intro wS hSw; (try dsimp only at hSw); go_simp; try with_reducible rfl)
            try simp only [Act.put, List.setIfInBounds_toArray, List.set_cons_zero, List.set_cons_succ]
            refine rg_take (i := 1) (d := some 40) (l := #[true, true, false, false, false, false, false, false, false, false, false]) (fuel := 9) (v := ?_) rfl (by kernel_rfl) (by kernel_rfl) (by kernel_rfl) (by kernel_rfl) (by kernel_rfl) (fun _ _ _ h => h) (by kernel_rfl) ?_ (by assumption) ?_
            rotate_left 1
            · (intro wS hSw; (try dsimp only at hSw); go_simp; try with_reducible rfl)
            try simp only [Act.put, List.setIfInBounds_toArray, List.set_cons_zero, List.set_cons_succ]
            refine rg_take (i := 2) (d := some 41) (l := #[true, true, true, false, false, false, false, false, false, false, false]) (fuel := 8) (v := ?_) rfl (by kernel_rfl) (by kernel_rfl) (by kernel_rfl) (by kernel_rfl) (by kernel_rfl) (fun _ _ _ h => h) (by kernel_rfl) ?_ (by assumption) ?_
            rotate_left 1
            · (intro wS hSw; (try dsimp only at hSw); go_simp; try with_reducible rfl)
            try simp only [Act.put, List.setIfInBounds_toArray, List.set_cons_zero, List.set_cons_succ]
            refine rg_take (i := 3) (d := some 42) (l := #[true, true, true, true, false, false, false, false, false, false, false]) (fuel := 7) (v := ?_) rfl (by kernel_rfl) (by kernel_rfl) (by kernel_rfl) (by kernel_rfl) (by kernel_rfl) (fun _ _ _ h => h) (by kernel_rfl) ?_ (by assumption) ?_
            rotate_left 1
            · (intro wS hSw; (try dsimp only at hSw); go_simp; try with_reducible rfl)
            try simp only [Act.put, List.setIfInBounds_toArray, List.set_cons_zero, List.set_cons_succ]
            refine rg_take (i := 4) (d := some 43) (l := #[true, true, true, true, true, false, false, false, false, false, false]) (fuel := 6) (v := ?_) rfl (by kernel_rfl) (by kernel_rfl) (by kernel_rfl) (by kernel_rfl) (by kernel_rfl) (fun _ _ _ h => h) (by kernel_rfl) ?_ (by assumption) ?_
            rotate_left 1
            · (intro wS hSw; (try dsimp only at hSw); go_simp; try with_reducible rfl)
            try simp only [Act.put, List.setIfInBounds_toArray, List.set_cons_zero, List.set_cons_succ]
            refine rg_take (i := 5) (d := some 44) (l := #[true, true, true, true, true, true, false, false, false, false, false]) (fuel := 5) (v := ?_) rfl (by kernel_rfl) (by kernel_rfl) (by kernel_rfl) (by kernel_rfl) (by kernel_rfl) (fun _ _ _ h => h) (by kernel_rfl) ?_ (by assumption) ?_
            rotate_left 1
            · (intro wS hSw; (try dsimp only at hSw); go_simp; try with_reducible rfl)
            try simp only [Act.put, List.setIfInBounds_toArray, List.set_cons_zero, List.set_cons_succ]
            refine rg_take (i := 7) (d := some 46) (l := #[true, true, true, true, true, true, false, true, false, false, false]) (fuel := 4) (v := ?_) rfl (by kernel_rfl) (by kernel_rfl) (by kernel_rfl) (by kernel_rfl) (by kernel_rfl) (fun _ _ _ h => h) (by kernel_rfl) ?_ (by assumption) ?_
            rotate_left 1
            · (intro wS hSw; (try dsimp only at hSw); go_simp; try with_reducible rfl)
            try simp only [Act.put, List.setIfInBounds_toArray, List.set_cons_zero, List.set_cons_succ]
            refine rg_take (i := 8) (d := some 47) (l := #[true, true, true, true, true, true, false, true, true, false, false]) (fuel := 3) (v := ?_) rfl (by kernel_rfl) (by kernel_rfl) (by kernel_rfl) (by kernel_rfl) (by kernel_rfl) (fun _ _ _ h => h) (by kernel_rfl) ?_ (by assumption) ?_
            rotate_left 1
            · (intro wS hSw; (try dsimp only at hSw); go_simp; try with_reducible rfl)
            try simp only [Act.put, List.setIfInBounds_toArray, List.set_cons_zero, List.set_cons_succ]
            refine rg_next (i := 6) (l := #[true, true, true, true, true, true, true, true, true, false, false]) (fuel := 2) (by kernel_rfl) rfl (by kernel_rfl) (by kernel_rfl) (fun K hK => ?_)
            go_simp
            (go_at_call 28)
            refine (word_any _ _ _).mono ?_
            rw [hW]
            rintro e w' ⟨rfl, rfl⟩
            first | (refine hK.out _ _ ?_ (fun hHeld => ?_)) | (go_wp2_with fail; refine hK.out _ _ ?_ (fun hHeld => ?_))
            · (try dsimp only); exact hHeld
            clear hK K
            try simp only [Act.put, List.setIfInBounds_toArray, List.set_cons_zero, List.set_cons_succ]
            refine rg_take (i := 9) (d := some 48) (l := #[true, true, true, true, true, true, true, true, true, true, false]) (fuel := 1) (v := ?_) rfl (by kernel_rfl) (by kernel_rfl) (by kernel_rfl) (by kernel_rfl) (by kernel_rfl) (fun _ _ _ h => h) (by kernel_rfl) ?_ (by assumption) ?_
            rotate_left 1
            · (intro wS hSw; (try dsimp only at hSw); go_simp; try with_reducible rfl)
            try simp only [Act.put, List.setIfInBounds_toArray, List.set_cons_zero, List.set_cons_succ]
            refine rg_take (i := 10) (d := some 11) (l := #[true, true, true, true, true, true, true, true, true, true, true]) (fuel := 0) (v := ?_) rfl (by kernel_rfl) (by kernel_rfl) (by kernel_rfl) (by kernel_rfl) (by kernel_rfl) (fun _ _ _ h => h) (by kernel_rfl) ?_ (by assumption) ?_
            rotate_left 1
            · (intro wS hSw; (try dsimp only at hSw); go_simp; try with_reducible rfl)
            try simp only [Act.put, List.setIfInBounds_toArray, List.set_cons_zero, List.set_cons_succ]
            refine wpAnyH_done (by kernel_rfl) ?_ _
            go_wp2_with fail
            go_ret3
            exact ⟨by first | rfl | (simp only [e0, e1]; rfl) | (simp [e0, e1, wpP, zpP]), by first | exact Below.refl _ _ | exact (Below.refl _ w).drew⟩
          · by_cases h17 : m = 17
            · subst h17
              obtain rfl : q = 2 := HQ.out.symm.trans (by decide)
              obtain rfl : n = 2 := by omega
              obtain rfl : wpP (z 0 + 256 * z 1) = r := HR.out
              obtain ⟨ad, rfl, hl, hc0, hw⟩ := R 0 (by omega)
              obtain ⟨z0, z1⟩ := bounds_u8 hw
              obtain ⟨ad', had, hl', hc2, hw'⟩ := R 1 (by omega)
              obtain rfl : ad = ad' := Option.some.inj had
              obtain ⟨z2, z3⟩ := bounds_u8 hw'
              have hc1 : w.cell? ad = some (.int .u8 (z 0)) := hc0
              have hc3 : w.cell? ⟨ad.block, ad.off + 1, none⟩ = some (.int .u8 (z 1)) := hc2
              have hW := wordI_eq (z 0) (z 1) z0 z1 z2 z3
              obtain ⟨g, hg⟩ : ∃ g, z 0 + 256 * z 1 = g := ⟨_, rfl⟩
              rw [hg] at hW
              have g0 : 0 ≤ g := by omega
              have g1 : g ≤ 65535 := by omega
              have u0 : IntKind.u16.wrap 0 = 0 := by rw [u16_mod]; omega
              have e0 : IntKind.u16.wrap g = g := by rw [u16_mod]; omega
              have e1 : IntKind.u16.wrap (g + 1) = (g + 1) % 65536 := u16_mod _
              rw [hg]
              clear hg
              clear hn HQ HR hc0 hc2
              go_enter Tryd.func8, Tryd.ntmps8
              go_wp2_with (first
                | (go_at_call 12; refine (hB _).mono ?_; rintro e w' ⟨rfl, rfl⟩))
              refine rg_begin (S := fun w' => w'.cell? ad = some (.int .u8 (z 0)) ∧ w'.cell? ⟨ad.block, ad.off + 1, none⟩ = some (.int .u8 (z 1))) 11 #[false, false, false, false, false, false, false, false, false, false, false] (by kernel_rfl) (by kernel_rfl) (by kernel_rfl) ?_ (fun hHeld => ?_)
              · exact ⟨hc1, hc3⟩
              refine rg_take (i := 0) (d := some 39) (l := #[true, false, false, false, false, false, false, false, false, false, false]) (fuel := 10) (v := ?_) rfl (by kernel_rfl) (by kernel_rfl) (by kernel_rfl) (by kernel_rfl) (by kernel_rfl) (fun _ _ _ h => h) (by kernel_rfl) ?_ (by assumption) ?_
              rotate_left 1
              · (intro wS hSw; (try dsimp only at hSw); go_simp; try with_reducible rfl)
              try simp only [Act.put, List.setIfInBounds_toArray, List.set_cons_zero, List.set_cons_succ]
              refine rg_take (i := 1) (d := some 40) (l := #[true, true, false, false, false, false, false, false, false, false, false]) (fuel := 9) (v := ?_) rfl (by kernel_rfl) (by kernel_rfl) (by kernel_rfl) (by kernel_rfl) (by kernel_rfl) (fun _ _ _ h => h) (by kernel_rfl) ?_ (by assumption) ?_
              rotate_left 1
              · (intro wS hSw; (try dsimp only at hSw); go_simp; try with_reducible rfl)
              try simp only [Act.put, List.setIfInBounds_toArray, List.set_cons_zero, List.set_cons_succ]
              refine rg_take (i := 2) (d := some 41) (l := #[true, true, true, false, false, false, false, false, false, false, false]) (fuel := 8) (v := ?_) rfl (by kernel_rfl) (by kernel_rfl) (by kernel_rfl) (by kernel_rfl) (by kernel_rfl) (fun _ _ _ h => h) (by kernel_rfl) ?_ (by assumption) ?_
              rotate_left 1
              · (intro wS hSw; (try dsimp only at hSw); go_simp; try with_reducible rfl)
              try simp only [Act.put, List.setIfInBounds_toArray, List.set_cons_zero, List.set_cons_succ]
              refine rg_take (i := 3) (d := some 42) (l := #[true, true, true, true, false, false, false, false, false, false, false]) (fuel := 7) (v := ?_) rfl (by kernel_rfl) (by kernel_rfl) (by kernel_rfl) (by kernel_rfl) (by kernel_rfl) (fun _ _ _ h => h) (by kernel_rfl) ?_ (by assumption) ?_
              rotate_left 1
              · (intro wS hSw; (try dsimp only at hSw); go_simp; try with_reducible rfl)
              try simp only [Act.put, List.setIfInBounds_toArray, List.set_cons_zero, List.set_cons_succ]
              refine rg_take (i := 4) (d := some 43) (l := #[true, true, true, true, true, false, false, false, false, false, false]) (fuel := 6) (v := ?_) rfl (by kernel_rfl) (by kernel_rfl) (by kernel_rfl) (by kernel_rfl) (by kernel_rfl) (fun _ _ _ h => h) (by kernel_rfl) ?_ (by assumption) ?_
              rotate_left 1
              · (intro wS hSw; (try dsimp only at hSw); go_simp; try with_reducible rfl)
              try simp only [Act.put, List.setIfInBounds_toArray, List.set_cons_zero, List.set_cons_succ]
              refine rg_take (i := 5) (d := some 44) (l := #[true, true, true, true, true, true, false, false, false, false, false]) (fuel := 5) (v := ?_) rfl (by kernel_rfl) (by kernel_rfl) (by kernel_rfl) (by kernel_rfl) (by kernel_rfl) (fun _ _ _ h => h) (by kernel_rfl) ?_ (by assumption) ?_
              rotate_left 1
              · (intro wS hSw; (try dsimp only at hSw); go_simp; try with_reducible rfl)
              try simp only [Act.put, List.setIfInBounds_toArray, List.set_cons_zero, List.set_cons_succ]
              refine rg_take (i := 7) (d := some 46) (l := #[true, true, true, true, true, true, false, true, false, false, false]) (fuel := 4) (v := ?_) rfl (by kernel_rfl) (by kernel_rfl) (by kernel_rfl) (by kernel_rfl) (by kernel_rfl) (fun _ _ _ h => h) (by kernel_rfl) ?_ (by assumption) ?_
              rotate_left 1
              · (intro wS hSw; (try dsimp only at hSw); go_simp; try with_reducible rfl)
              try simp only [Act.put, List.setIfInBounds_toArray, List.set_cons_zero, List.set_cons_succ]
              refine rg_take (i := 8) (d := some 47) (l := #[true, true, true, true, true, true, false, true, true, false, false]) (fuel := 3) (v := ?_) rfl (by kernel_rfl) (by kernel_rfl) (by kernel_rfl) (by kernel_rfl) (by kernel_rfl) (fun _ _ _ h => h) (by kernel_rfl) ?_ (by assumption) ?_
              rotate_left 1
              · (intro wS hSw; (try dsimp only at hSw); go_simp; try with_reducible rfl)
              try simp only [Act.put, List.setIfInBounds_toArray, List.set_cons_zero, List.set_cons_succ]
              refine rg_next (i := 6) (l := #[true, true, true, true, true, true, true, true, true, false, false]) (fuel := 2) (by kernel_rfl) rfl (by kernel_rfl) (by kernel_rfl) (fun K hK => ?_)
              go_simp
              (go_at_call 28)
              refine (word_any _ _ _).mono ?_
              rw [hW]
              rintro e w' ⟨rfl, rfl⟩
              first | (refine hK.out _ _ ?_ (fun hHeld => ?_)) | (go_wp2_with fail; refine hK.out _ _ ?_ (fun hHeld => ?_))
              · (try dsimp only); exact hHeld
              clear hK K
              try simp only [Act.put, List.setIfInBounds_toArray, List.set_cons_zero, List.set_cons_succ]
              refine rg_take (i := 9) (d := some 48) (l := #[true, true, true, true, true, true, true, true, true, true, false]) (fuel := 1) (v := ?_) rfl (by kernel_rfl) (by kernel_rfl) (by kernel_rfl) (by kernel_rfl) (by kernel_rfl) (fun _ _ _ h => h) (by kernel_rfl) ?_ (by assumption) ?_
              rotate_left 1
              · (intro wS hSw; (try dsimp only at hSw); go_simp; try with_reducible rfl)
              try simp only [Act.put, List.setIfInBounds_toArray, List.set_cons_zero, List.set_cons_succ]
              refine rg_take (i := 10) (d := some 11) (l := #[true, true, true, true, true, true, true, true, true, true, true]) (fuel := 0) (v := ?_) rfl (by kernel_rfl) (by kernel_rfl) (by kernel_rfl) (by kernel_rfl) (by kernel_rfl) (fun _ _ _ h => h) (by kernel_rfl) ?_ (by assumption) ?_
              rotate_left 1
              · (intro wS hSw; (try dsimp only at hSw); go_simp; try with_reducible rfl)
              try simp only [Act.put, List.setIfInBounds_toArray, List.set_cons_zero, List.set_cons_succ]
              refine wpAnyH_done (by kernel_rfl) ?_ _
              go_wp2_with fail
              go_ret3
              exact ⟨by first | rfl | (simp only [e0, e1]; rfl) | (simp [e0, e1, wpP, zpP]), by first | exact Below.refl _ _ | exact (Below.refl _ w).drew⟩
            · obtain rfl : #[.int .u16 0, .int .u16 0, .bool false] = r := by rw [← HR.out]; unfold ptrP; rw [if_neg (by omega), if_neg (by omega), if_neg (by omega), if_neg (by omega)]
              clear HQ HR
              have k1 : (m : Int) ≠ 9 := by omega
              have k2 : (m : Int) ≠ 8 := by omega
              have k3 : (m : Int) ≠ 10 := by omega
              have k4 : (m : Int) ≠ 18 := by omega
              have k5 : (m : Int) ≠ 17 := by omega
              clear h8 h9 h10 h17 h18
              go_enter Tryd.func8, Tryd.ntmps8
              go_wp2_with (first
                | (go_at_call 12; refine (hB _).mono ?_; rintro e w' ⟨rfl, rfl⟩))
              go_ret3
              exact ⟨by first | rfl | (simp only [e0, e1]; rfl) | (simp [e0, e1, wpP, zpP]), by first | exact Below.refl _ _ | exact (Below.refl _ w).drew⟩
  · obtain rfl : #[.int .u16 0, .int .u16 0, .bool false] = r := by rw [← HR.out]; unfold ptrP; rw [HQ.out]; rw [if_neg (by omega), if_neg (by omega), if_neg (by omega), if_neg (by omega)]
    clear HQ HR
    go_enter Tryd.func8, Tryd.ntmps8
    go_wp2_with (first
      | (go_at_call 12; refine (hB _).mono ?_; rintro e w' ⟨rfl, rfl⟩))
    go_ret3
    exact ⟨by first | rfl | (simp only [e0, e1]; rfl) | (simp [e0, e1, wpP, zpP]), by first | exact Below.refl _ _ | exact (Below.refl _ w).drew⟩
end Go.Proofs.YtdhnnegigjjoeaaDoor
namespace Go.Proofs.YtdhnnegigjjoeaaDoor
open Go.RowKit
set_option linter.unusedVariables false
set_option linter.unusedSimpArgs false
set_option maxRecDepth 100000
set_option maxHeartbeats 4000000 in
theorem maddr_2 (A : Option Addr) (c : Nat) (z : Nat → Int) (x y g : Int) (hc : 1 ≤ c) (x0 : 0 ≤ x) (x1 : x ≤ 255) (y0 : 0 ≤ y) (y1 : y ≤ 255) (g0 : 0 ≤ g) (g1 : g ≤ 65535) (w : World) (R : IRow w .u8 A 1 z) : Calls Tryd.prog 10 #[.int .u8 2, .slice A 1 c, .int .u8 x, .int .u8 y, .int .u16 g] w fun e w' => e = .returned (.tuple #[.int .u16 (8192 + z 0), .bool true]) ∧ Below w.heap.size w w' := by
  have hB := fun W => mbehind_any 2 W
  have hI := fun W => mindex_any 2 x y W
  rw [show mbP 2 = 1 from by decide] at hB
  rw [show mixP 2 x y = 0 from rfl] at hI
  obtain ⟨ad, rfl, hl, hc0, hw⟩ := R 0 (by omega)
  obtain ⟨z0, z1⟩ := bounds_u8 hw
  have hc1 : w.cell? ad = some (.int .u8 (z 0)) := hc0
  clear hc0
  go_enter Tryd.func10, Tryd.ntmps10
  go_wp2_with (first
    | (go_at_call 12; refine (hB _).mono ?_; rintro e w' ⟨rfl, rfl⟩)
    | (go_at_call 31; refine (hI _).mono ?_; rintro e w' ⟨rfl, rfl⟩)
    | (go_at_call 27; refine (mzero_any _ (by omega) (by omega) _).mono ?_; rintro e w' ⟨rfl, rfl⟩))
  go_ret2
  exact ⟨rfl, by first | exact Below.refl _ _ | exact (Below.refl _ w).drew⟩
set_option maxHeartbeats 4000000 in
theorem maddr_3 (A : Option Addr) (c : Nat) (z : Nat → Int) (x y g : Int) (hc : 1 ≤ c) (x0 : 0 ≤ x) (x1 : x ≤ 255) (y0 : 0 ≤ y) (y1 : y ≤ 255) (g0 : 0 ≤ g) (g1 : g ≤ 65535) (w : World) (R : IRow w .u8 A 1 z) : Calls Tryd.prog 10 #[.int .u8 3, .slice A 1 c, .int .u8 x, .int .u8 y, .int .u16 g] w fun e w' => e = .returned (.tuple #[.int .u16 (8192 + (z 0 + x) % 256), .bool true]) ∧ Below w.heap.size w w' := by
  have hB := fun W => mbehind_any 3 W
  have hI := fun W => mindex_any 3 x y W
  rw [show mbP 3 = 1 from by decide] at hB
  rw [show mixP 3 x y = x from rfl] at hI
  obtain ⟨ad, rfl, hl, hc0, hw⟩ := R 0 (by omega)
  obtain ⟨z0, z1⟩ := bounds_u8 hw
  have hc1 : w.cell? ad = some (.int .u8 (z 0)) := hc0
  clear hc0
  obtain ⟨p, hp⟩ : ∃ p, (z 0 + x) % 256 = p := ⟨_, rfl⟩
  have e0 : IntKind.u8.wrap (z 0 + x) = p := by rw [u8_mod]; omega
  have p0 : 0 ≤ p := by omega
  have p1 : p ≤ 255 := by omega
  rw [hp]
  clear hp
  go_enter Tryd.func10, Tryd.ntmps10
  go_wp2_with (first
    | (go_at_call 12; refine (hB _).mono ?_; rintro e w' ⟨rfl, rfl⟩)
    | (go_at_call 31; refine (hI _).mono ?_; rintro e w' ⟨rfl, rfl⟩)
    | (go_at_call 27; refine (mzero_any _ (by omega) (by omega) _).mono ?_; rintro e w' ⟨rfl, rfl⟩))
  go_ret2
  exact ⟨rfl, by first | exact Below.refl _ _ | exact (Below.refl _ w).drew⟩
set_option maxHeartbeats 4000000 in
theorem maddr_4 (A : Option Addr) (c : Nat) (z : Nat → Int) (x y g : Int) (hc : 1 ≤ c) (x0 : 0 ≤ x) (x1 : x ≤ 255) (y0 : 0 ≤ y) (y1 : y ≤ 255) (g0 : 0 ≤ g) (g1 : g ≤ 65535) (w : World) (R : IRow w .u8 A 1 z) : Calls Tryd.prog 10 #[.int .u8 4, .slice A 1 c, .int .u8 x, .int .u8 y, .int .u16 g] w fun e w' => e = .returned (.tuple #[.int .u16 (8192 + (z 0 + y) % 256), .bool true]) ∧ Below w.heap.size w w' := by
  have hB := fun W => mbehind_any 4 W
  have hI := fun W => mindex_any 4 x y W
  rw [show mbP 4 = 1 from by decide] at hB
  rw [show mixP 4 x y = y from rfl] at hI
  obtain ⟨ad, rfl, hl, hc0, hw⟩ := R 0 (by omega)
  obtain ⟨z0, z1⟩ := bounds_u8 hw
  have hc1 : w.cell? ad = some (.int .u8 (z 0)) := hc0
  clear hc0
  obtain ⟨p, hp⟩ : ∃ p, (z 0 + y) % 256 = p := ⟨_, rfl⟩
  have e0 : IntKind.u8.wrap (z 0 + y) = p := by rw [u8_mod]; omega
  have p0 : 0 ≤ p := by omega
  have p1 : p ≤ 255 := by omega
  rw [hp]
  clear hp
  go_enter Tryd.func10, Tryd.ntmps10
  go_wp2_with (first
    | (go_at_call 12; refine (hB _).mono ?_; rintro e w' ⟨rfl, rfl⟩)
    | (go_at_call 31; refine (hI _).mono ?_; rintro e w' ⟨rfl, rfl⟩)
    | (go_at_call 27; refine (mzero_any _ (by omega) (by omega) _).mono ?_; rintro e w' ⟨rfl, rfl⟩))
  go_ret2
  exact ⟨rfl, by first | exact Below.refl _ _ | exact (Below.refl _ w).drew⟩
set_option maxHeartbeats 4000000 in
theorem maddr_12 (A : Option Addr) (c : Nat) (z : Nat → Int) (x y g : Int) (hc : 2 ≤ c) (x0 : 0 ≤ x) (x1 : x ≤ 255) (y0 : 0 ≤ y) (y1 : y ≤ 255) (g0 : 0 ≤ g) (g1 : g ≤ 65535) (w : World) (R : IRow w .u8 A 2 z) : Calls Tryd.prog 10 #[.int .u8 12, .slice A 2 c, .int .u8 x, .int .u8 y, .int .u16 g] w fun e w' => e = .returned (.tuple #[.int .u16 (8192 + z 0), .bool true]) ∧ Below w.heap.size w w' := by
  have hB := fun W => mbehind_any 12 W
  have hI := fun W => mindex_any 12 x y W
  rw [show mbP 12 = 2 from by decide] at hB
  rw [show mixP 12 x y = 0 from rfl] at hI
  obtain ⟨ad, rfl, hl, hc0, hw⟩ := R 0 (by omega)
  obtain ⟨z0, z1⟩ := bounds_u8 hw
  have hc1 : w.cell? ad = some (.int .u8 (z 0)) := hc0
  clear hc0
  go_enter Tryd.func10, Tryd.ntmps10
  go_wp2_with (first
    | (go_at_call 12; refine (hB _).mono ?_; rintro e w' ⟨rfl, rfl⟩)
    | (go_at_call 31; refine (hI _).mono ?_; rintro e w' ⟨rfl, rfl⟩)
    | (go_at_call 27; refine (mzero_any _ (by omega) (by omega) _).mono ?_; rintro e w' ⟨rfl, rfl⟩))
  go_ret2
  exact ⟨rfl, by first | exact Below.refl _ _ | exact (Below.refl _ w).drew⟩
set_option maxHeartbeats 4000000 in
theorem maddr_13 (A : Option Addr) (c : Nat) (z : Nat → Int) (x y g : Int) (hc : 2 ≤ c) (x0 : 0 ≤ x) (x1 : x ≤ 255) (y0 : 0 ≤ y) (y1 : y ≤ 255) (g0 : 0 ≤ g) (g1 : g ≤ 65535) (w : World) (R : IRow w .u8 A 2 z) : Calls Tryd.prog 10 #[.int .u8 13, .slice A 2 c, .int .u8 x, .int .u8 y, .int .u16 g] w fun e w' => e = .returned (.tuple #[.int .u16 (8192 + z 1), .bool true]) ∧ Below w.heap.size w w' := by
  have hB := fun W => mbehind_any 13 W
  have hI := fun W => mindex_any 13 x y W
  rw [show mbP 13 = 2 from by decide] at hB
  rw [show mixP 13 x y = 0 from rfl] at hI
  obtain ⟨ad, rfl, hl, hc0, hw⟩ := R 1 (by omega)
  obtain ⟨z0, z1⟩ := bounds_u8 hw
  have hc1 : w.cell? ⟨ad.block, ad.off + 1, none⟩ = some (.int .u8 (z 1)) := hc0
  clear hc0
  go_enter Tryd.func10, Tryd.ntmps10
  go_wp2_with (first
    | (go_at_call 12; refine (hB _).mono ?_; rintro e w' ⟨rfl, rfl⟩)
    | (go_at_call 31; refine (hI _).mono ?_; rintro e w' ⟨rfl, rfl⟩)
    | (go_at_call 27; refine (mzero_any _ (by omega) (by omega) _).mono ?_; rintro e w' ⟨rfl, rfl⟩))
  go_ret2
  exact ⟨rfl, by first | exact Below.refl _ _ | exact (Below.refl _ w).drew⟩
set_option maxHeartbeats 4000000 in
theorem maddr_14 (A : Option Addr) (c : Nat) (z : Nat → Int) (x y g : Int) (hc : 2 ≤ c) (x0 : 0 ≤ x) (x1 : x ≤ 255) (y0 : 0 ≤ y) (y1 : y ≤ 255) (g0 : 0 ≤ g) (g1 : g ≤ 65535) (w : World) (R : IRow w .u8 A 2 z) : Calls Tryd.prog 10 #[.int .u8 14, .slice A 2 c, .int .u8 x, .int .u8 y, .int .u16 g] w fun e w' => e = .returned (.tuple #[.int .u16 (8192 + (z 1 + x) % 256), .bool true]) ∧ Below w.heap.size w w' := by
  have hB := fun W => mbehind_any 14 W
  have hI := fun W => mindex_any 14 x y W
  rw [show mbP 14 = 2 from by decide] at hB
  rw [show mixP 14 x y = x from rfl] at hI
  obtain ⟨ad, rfl, hl, hc0, hw⟩ := R 1 (by omega)
  obtain ⟨z0, z1⟩ := bounds_u8 hw
  have hc1 : w.cell? ⟨ad.block, ad.off + 1, none⟩ = some (.int .u8 (z 1)) := hc0
  clear hc0
  obtain ⟨p, hp⟩ : ∃ p, (z 1 + x) % 256 = p := ⟨_, rfl⟩
  have e0 : IntKind.u8.wrap (z 1 + x) = p := by rw [u8_mod]; omega
  have p0 : 0 ≤ p := by omega
  have p1 : p ≤ 255 := by omega
  rw [hp]
  clear hp
  go_enter Tryd.func10, Tryd.ntmps10
  go_wp2_with (first
    | (go_at_call 12; refine (hB _).mono ?_; rintro e w' ⟨rfl, rfl⟩)
    | (go_at_call 31; refine (hI _).mono ?_; rintro e w' ⟨rfl, rfl⟩)
    | (go_at_call 27; refine (mzero_any _ (by omega) (by omega) _).mono ?_; rintro e w' ⟨rfl, rfl⟩))
  go_ret2
  exact ⟨rfl, by first | exact Below.refl _ _ | exact (Below.refl _ w).drew⟩
set_option maxHeartbeats 4000000 in
theorem maddr_8 (A : Option Addr) (c : Nat) (z : Nat → Int) (x y g : Int) (hc : 1 ≤ c) (x0 : 0 ≤ x) (x1 : x ≤ 255) (y0 : 0 ≤ y) (y1 : y ≤ 255) (g0 : 0 ≤ g) (g1 : g ≤ 65535) (w : World) (R : IRow w .u8 A 1 z) : Calls Tryd.prog 10 #[.int .u8 8, .slice A 1 c, .int .u8 x, .int .u8 y, .int .u16 g] w fun e w' => e = .returned (.tuple #[.int .u16 (g), .bool true]) ∧ Below w.heap.size w w' := by
  have hB := fun W => mbehind_any 8 W
  have hI := fun W => mindex_any 8 x y W
  rw [show mbP 8 = 1 from by decide] at hB
  rw [show mixP 8 x y = 0 from rfl] at hI
  have e0 : IntKind.u16.wrap g = g := by rw [u16_mod]; omega
  go_enter Tryd.func10, Tryd.ntmps10
  go_wp2_with (first
    | (go_at_call 12; refine (hB _).mono ?_; rintro e w' ⟨rfl, rfl⟩)
    | (go_at_call 31; refine (hI _).mono ?_; rintro e w' ⟨rfl, rfl⟩)
    | (go_at_call 27; refine (mzero_any _ (by omega) (by omega) _).mono ?_; rintro e w' ⟨rfl, rfl⟩))
  go_ret2
  exact ⟨rfl, by first | exact Below.refl _ _ | exact (Below.refl _ w).drew⟩
set_option maxHeartbeats 4000000 in
theorem maddr_9 (A : Option Addr) (c : Nat) (z : Nat → Int) (x y g : Int) (hc : 1 ≤ c) (x0 : 0 ≤ x) (x1 : x ≤ 255) (y0 : 0 ≤ y) (y1 : y ≤ 255) (g0 : 0 ≤ g) (g1 : g ≤ 65535) (w : World) (R : IRow w .u8 A 1 z) : Calls Tryd.prog 10 #[.int .u8 9, .slice A 1 c, .int .u8 x, .int .u8 y, .int .u16 g] w fun e w' => e = .returned (.tuple #[.int .u16 (g), .bool true]) ∧ Below w.heap.size w w' := by
  have hB := fun W => mbehind_any 9 W
  have hI := fun W => mindex_any 9 x y W
  rw [show mbP 9 = 1 from by decide] at hB
  rw [show mixP 9 x y = 0 from rfl] at hI
  have e0 : IntKind.u16.wrap g = g := by rw [u16_mod]; omega
  go_enter Tryd.func10, Tryd.ntmps10
  go_wp2_with (first
    | (go_at_call 12; refine (hB _).mono ?_; rintro e w' ⟨rfl, rfl⟩)
    | (go_at_call 31; refine (hI _).mono ?_; rintro e w' ⟨rfl, rfl⟩)
    | (go_at_call 27; refine (mzero_any _ (by omega) (by omega) _).mono ?_; rintro e w' ⟨rfl, rfl⟩))
  go_ret2
  exact ⟨rfl, by first | exact Below.refl _ _ | exact (Below.refl _ w).drew⟩
set_option maxHeartbeats 4000000 in
theorem maddr_17 (A : Option Addr) (c : Nat) (z : Nat → Int) (x y g : Int) (hc : 2 ≤ c) (x0 : 0 ≤ x) (x1 : x ≤ 255) (y0 : 0 ≤ y) (y1 : y ≤ 255) (g0 : 0 ≤ g) (g1 : g ≤ 65535) (w : World) (R : IRow w .u8 A 2 z) : Calls Tryd.prog 10 #[.int .u8 17, .slice A 2 c, .int .u8 x, .int .u8 y, .int .u16 g] w fun e w' => e = .returned (.tuple #[.int .u16 (g), .bool true]) ∧ Below w.heap.size w w' := by
  have hB := fun W => mbehind_any 17 W
  have hI := fun W => mindex_any 17 x y W
  rw [show mbP 17 = 2 from by decide] at hB
  rw [show mixP 17 x y = 0 from rfl] at hI
  have e0 : IntKind.u16.wrap g = g := by rw [u16_mod]; omega
  go_enter Tryd.func10, Tryd.ntmps10
  go_wp2_with (first
    | (go_at_call 12; refine (hB _).mono ?_; rintro e w' ⟨rfl, rfl⟩)
    | (go_at_call 31; refine (hI _).mono ?_; rintro e w' ⟨rfl, rfl⟩)
    | (go_at_call 27; refine (mzero_any _ (by omega) (by omega) _).mono ?_; rintro e w' ⟨rfl, rfl⟩))
  go_ret2
  exact ⟨rfl, by first | exact Below.refl _ _ | exact (Below.refl _ w).drew⟩
set_option maxHeartbeats 4000000 in
theorem maddr_18 (A : Option Addr) (c : Nat) (z : Nat → Int) (x y g : Int) (hc : 2 ≤ c) (x0 : 0 ≤ x) (x1 : x ≤ 255) (y0 : 0 ≤ y) (y1 : y ≤ 255) (g0 : 0 ≤ g) (g1 : g ≤ 65535) (w : World) (R : IRow w .u8 A 2 z) : Calls Tryd.prog 10 #[.int .u8 18, .slice A 2 c, .int .u8 x, .int .u8 y, .int .u16 g] w fun e w' => e = .returned (.tuple #[.int .u16 (g), .bool true]) ∧ Below w.heap.size w w' := by
  have hB := fun W => mbehind_any 18 W
  have hI := fun W => mindex_any 18 x y W
  rw [show mbP 18 = 2 from by decide] at hB
  rw [show mixP 18 x y = 0 from rfl] at hI
  have e0 : IntKind.u16.wrap g = g := by rw [u16_mod]; omega
  go_enter Tryd.func10, Tryd.ntmps10
  go_wp2_with (first
    | (go_at_call 12; refine (hB _).mono ?_; rintro e w' ⟨rfl, rfl⟩)
    | (go_at_call 31; refine (hI _).mono ?_; rintro e w' ⟨rfl, rfl⟩)
    | (go_at_call 27; refine (mzero_any _ (by omega) (by omega) _).mono ?_; rintro e w' ⟨rfl, rfl⟩))
  go_ret2
  exact ⟨rfl, by first | exact Below.refl _ _ | exact (Below.refl _ w).drew⟩
set_option maxHeartbeats 4000000 in
theorem maddr_10 (A : Option Addr) (c : Nat) (z : Nat → Int) (x y g : Int) (hc : 1 ≤ c) (x0 : 0 ≤ x) (x1 : x ≤ 255) (y0 : 0 ≤ y) (y1 : y ≤ 255) (g0 : 0 ≤ g) (g1 : g ≤ 65535) (w : World) (R : IRow w .u8 A 1 z) : Calls Tryd.prog 10 #[.int .u8 10, .slice A 1 c, .int .u8 x, .int .u8 y, .int .u16 g] w fun e w' => e = .returned (.tuple #[.int .u16 ((g + y) % 65536), .bool true]) ∧ Below w.heap.size w w' := by
  have hB := fun W => mbehind_any 10 W
  have hI := fun W => mindex_any 10 x y W
  rw [show mbP 10 = 1 from by decide] at hB
  rw [show mixP 10 x y = y from rfl] at hI
  have e0 : IntKind.u16.wrap y = y := by rw [u16_mod]; omega
  have e1 : IntKind.u16.wrap (g + y) = (g + y) % 65536 := u16_mod _
  go_enter Tryd.func10, Tryd.ntmps10
  go_wp2_with (first
    | (go_at_call 12; refine (hB _).mono ?_; rintro e w' ⟨rfl, rfl⟩)
    | (go_at_call 31; refine (hI _).mono ?_; rintro e w' ⟨rfl, rfl⟩)
    | (go_at_call 27; refine (mzero_any _ (by omega) (by omega) _).mono ?_; rintro e w' ⟨rfl, rfl⟩))
  go_ret2
  exact ⟨rfl, by first | exact Below.refl _ _ | exact (Below.refl _ w).drew⟩
end Go.Proofs.YtdhnnegigjjoeaaDoor
namespace Go.Proofs.YtdhnnegigjjoeaaDoor
open Go.RowKit
set_option linter.unusedVariables false
set_option linter.unusedSimpArgs false
set_option maxRecDepth 100000
set_option maxHeartbeats 4000000 in
theorem maddr_5 (A : Option Addr) (c : Nat) (z : Nat → Int) (x y g : Int) (hc : 2 ≤ c) (x0 : 0 ≤ x) (x1 : x ≤ 255) (y0 : 0 ≤ y) (y1 : y ≤ 255) (w : World) (R : IRow w .u8 A 2 z) : Calls Tryd.prog 10 #[.int .u8 5, .slice A 2 c, .int .u8 x, .int .u8 y, .int .u16 g] w fun e w' => e = .returned (.tuple #[.int .u16 (z 0 + 256 * z 1), .bool true]) ∧ Below w.heap.size w w' := by
  have hB := fun W => mbehind_any 5 W
  have hI := fun W => mindex_any 5 x y W
  rw [show mbP 5 = 2 from by decide] at hB
  rw [show mixP 5 x y = 0 from rfl] at hI
  obtain ⟨ad, rfl, hl, hc0, hw⟩ := R 0 (by omega)
  obtain ⟨z0, z1⟩ := bounds_u8 hw
  obtain ⟨ad', had, hl', hc2, hw'⟩ := R 1 (by omega)
  obtain rfl : ad = ad' := Option.some.inj had
  obtain ⟨z2, z3⟩ := bounds_u8 hw'
  have hc1 : w.cell? ad = some (.int .u8 (z 0)) := hc0
  have hc3 : w.cell? ⟨ad.block, ad.off + 1, none⟩ = some (.int .u8 (z 1)) := hc2
  have hW := wordI_eq (z 0) (z 1) z0 z1 z2 z3
  obtain ⟨q, hq⟩ : ∃ q, z 0 + 256 * z 1 = q := ⟨_, rfl⟩
  rw [hq] at hW
  have q0 : 0 ≤ q := by omega
  have q1 : q ≤ 65535 := by omega
  have e1 : IntKind.u16.wrap q = q := by rw [u16_mod]; omega
  rw [hq]
  clear hq hc0 hc2 had
  go_enter Tryd.func10, Tryd.ntmps10
  go_wp2_with (first
    | (go_at_call 12; refine (hB _).mono ?_; rintro e w' ⟨rfl, rfl⟩)
    | (go_at_call 31; refine (hI _).mono ?_; rintro e w' ⟨rfl, rfl⟩))
  refine rg_begin (S := fun w' => w'.cell? ad = some (.int .u8 (z 0)) ∧ w'.cell? ⟨ad.block, ad.off + 1, none⟩ = some (.int .u8 (z 1))) 8 #[false, false, false, false, false, false, false, false] (by kernel_rfl) (by kernel_rfl) (by kernel_rfl) ?_ (fun hHeld => ?_)
  · exact ⟨hc1, hc3⟩
  refine rg_take (i := 0) (d := some 54) (l := #[true, false, false, false, false, false, false, false]) (fuel := 7) (v := ?_) rfl (by kernel_rfl) (by kernel_rfl) (by kernel_rfl) (by kernel_rfl) (by kernel_rfl) (fun _ _ _ h => h) (by kernel_rfl) ?_ (by assumption) ?_
  rotate_left 1
  · (intro wS hSw; (try dsimp only at hSw); go_simp; try with_reducible rfl)
  try simp only [Act.put, List.setIfInBounds_toArray, List.set_cons_zero, List.set_cons_succ]
  refine rg_take (i := 1) (d := some 55) (l := #[true, true, false, false, false, false, false, false]) (fuel := 6) (v := ?_) rfl (by kernel_rfl) (by kernel_rfl) (by kernel_rfl) (by kernel_rfl) (by kernel_rfl) (fun _ _ _ h => h) (by kernel_rfl) ?_ (by assumption) ?_
  rotate_left 1
  · (intro wS hSw; (try dsimp only at hSw); go_simp; try with_reducible rfl)
  try simp only [Act.put, List.setIfInBounds_toArray, List.set_cons_zero, List.set_cons_succ]
  refine rg_take (i := 2) (d := some 56) (l := #[true, true, true, false, false, false, false, false]) (fuel := 5) (v := ?_) rfl (by kernel_rfl) (by kernel_rfl) (by kernel_rfl) (by kernel_rfl) (by kernel_rfl) (fun _ _ _ h => h) (by kernel_rfl) ?_ (by assumption) ?_
  rotate_left 1
  · (intro wS hSw; (try dsimp only at hSw); go_simp; try with_reducible rfl)
  try simp only [Act.put, List.setIfInBounds_toArray, List.set_cons_zero, List.set_cons_succ]
  refine rg_take (i := 3) (d := some 57) (l := #[true, true, true, true, false, false, false, false]) (fuel := 4) (v := ?_) rfl (by kernel_rfl) (by kernel_rfl) (by kernel_rfl) (by kernel_rfl) (by kernel_rfl) (fun _ _ _ h => h) (by kernel_rfl) ?_ (by assumption) ?_
  rotate_left 1
  · (intro wS hSw; (try dsimp only at hSw); go_simp; try with_reducible rfl)
  try simp only [Act.put, List.setIfInBounds_toArray, List.set_cons_zero, List.set_cons_succ]
  refine rg_take (i := 4) (d := some 58) (l := #[true, true, true, true, true, false, false, false]) (fuel := 3) (v := ?_) rfl (by kernel_rfl) (by kernel_rfl) (by kernel_rfl) (by kernel_rfl) (by kernel_rfl) (fun _ _ _ h => h) (by kernel_rfl) ?_ (by assumption) ?_
  rotate_left 1
  · (intro wS hSw; (try dsimp only at hSw); go_simp; try with_reducible rfl)
  try simp only [Act.put, List.setIfInBounds_toArray, List.set_cons_zero, List.set_cons_succ]
  refine rg_take (i := 5) (d := some 59) (l := #[true, true, true, true, true, true, false, false]) (fuel := 2) (v := ?_) rfl (by kernel_rfl) (by kernel_rfl) (by kernel_rfl) (by kernel_rfl) (by kernel_rfl) (fun _ _ _ h => h) (by kernel_rfl) ?_ (by assumption) ?_
  rotate_left 1
  · (intro wS hSw; (try dsimp only at hSw); go_simp; try with_reducible rfl)
  try simp only [Act.put, List.setIfInBounds_toArray, List.set_cons_zero, List.set_cons_succ]
  refine rg_next (i := 6) (l := #[true, true, true, true, true, true, true, false]) (fuel := 1) (by kernel_rfl) rfl (by kernel_rfl) (by kernel_rfl) (fun K hK => ?_)
  go_simp
  (go_at_call 28)
  refine (word_any _ _ _).mono ?_
  rw [hW]
  rintro e w' ⟨rfl, rfl⟩
  first | (refine hK.out _ _ ?_ (fun hHeld => ?_)) | (go_wp2_with fail; refine hK.out _ _ ?_ (fun hHeld => ?_))
  · (try dsimp only); exact hHeld
  clear hK K
  try simp only [Act.put, List.setIfInBounds_toArray, List.set_cons_zero, List.set_cons_succ]
  refine rg_take (i := 7) (d := some 4) (l := #[true, true, true, true, true, true, true, true]) (fuel := 0) (v := ?_) rfl (by kernel_rfl) (by kernel_rfl) (by kernel_rfl) (by kernel_rfl) (by kernel_rfl) (fun _ _ _ h => h) (by kernel_rfl) ?_ (by assumption) ?_
  rotate_left 1
  · (intro wS hSw; (try dsimp only at hSw); go_simp; try with_reducible rfl)
  try simp only [Act.put, List.setIfInBounds_toArray, List.set_cons_zero, List.set_cons_succ]
  refine wpAnyH_done (by kernel_rfl) ?_ _
  go_wp2_with fail
  go_ret2
  exact ⟨by first | rfl | (simp only [e1]; rfl), by first | exact Below.refl _ _ | exact (Below.refl _ w).drew⟩
set_option maxHeartbeats 4000000 in
theorem maddr_6 (A : Option Addr) (c : Nat) (z : Nat → Int) (x y g : Int) (hc : 2 ≤ c) (x0 : 0 ≤ x) (x1 : x ≤ 255) (y0 : 0 ≤ y) (y1 : y ≤ 255) (w : World) (R : IRow w .u8 A 2 z) : Calls Tryd.prog 10 #[.int .u8 6, .slice A 2 c, .int .u8 x, .int .u8 y, .int .u16 g] w fun e w' => e = .returned (.tuple #[.int .u16 ((z 0 + 256 * z 1 + x) % 65536), .bool true]) ∧ Below w.heap.size w w' := by
  have hB := fun W => mbehind_any 6 W
  have hI := fun W => mindex_any 6 x y W
  rw [show mbP 6 = 2 from by decide] at hB
  rw [show mixP 6 x y = x from rfl] at hI
  obtain ⟨ad, rfl, hl, hc0, hw⟩ := R 0 (by omega)
  obtain ⟨z0, z1⟩ := bounds_u8 hw
  obtain ⟨ad', had, hl', hc2, hw'⟩ := R 1 (by omega)
  obtain rfl : ad = ad' := Option.some.inj had
  obtain ⟨z2, z3⟩ := bounds_u8 hw'
  have hc1 : w.cell? ad = some (.int .u8 (z 0)) := hc0
  have hc3 : w.cell? ⟨ad.block, ad.off + 1, none⟩ = some (.int .u8 (z 1)) := hc2
  have hW := wordI_eq (z 0) (z 1) z0 z1 z2 z3
  obtain ⟨q, hq⟩ : ∃ q, z 0 + 256 * z 1 = q := ⟨_, rfl⟩
  rw [hq] at hW
  have q0 : 0 ≤ q := by omega
  have q1 : q ≤ 65535 := by omega
  have e0 : IntKind.u16.wrap x = x := by rw [u16_mod]; omega
  have e1 : IntKind.u16.wrap (q + x) = (q + x) % 65536 := u16_mod _
  rw [hq]
  clear hq hc0 hc2 had
  go_enter Tryd.func10, Tryd.ntmps10
  go_wp2_with (first
    | (go_at_call 12; refine (hB _).mono ?_; rintro e w' ⟨rfl, rfl⟩)
    | (go_at_call 31; refine (hI _).mono ?_; rintro e w' ⟨rfl, rfl⟩))
  refine rg_begin (S := fun w' => w'.cell? ad = some (.int .u8 (z 0)) ∧ w'.cell? ⟨ad.block, ad.off + 1, none⟩ = some (.int .u8 (z 1))) 8 #[false, false, false, false, false, false, false, false] (by kernel_rfl) (by kernel_rfl) (by kernel_rfl) ?_ (fun hHeld => ?_)
  · exact ⟨hc1, hc3⟩
  refine rg_take (i := 0) (d := some 54) (l := #[true, false, false, false, false, false, false, false]) (fuel := 7) (v := ?_) rfl (by kernel_rfl) (by kernel_rfl) (by kernel_rfl) (by kernel_rfl) (by kernel_rfl) (fun _ _ _ h => h) (by kernel_rfl) ?_ (by assumption) ?_
  rotate_left 1
  · (intro wS hSw; (try dsimp only at hSw); go_simp; try with_reducible rfl)
  try simp only [Act.put, List.setIfInBounds_toArray, List.set_cons_zero, List.set_cons_succ]
  refine rg_take (i := 1) (d := some 55) (l := #[true, true, false, false, false, false, false, false]) (fuel := 6) (v := ?_) rfl (by kernel_rfl) (by kernel_rfl) (by kernel_rfl) (by kernel_rfl) (by kernel_rfl) (fun _ _ _ h => h) (by kernel_rfl) ?_ (by assumption) ?_
  rotate_left 1
  · (intro wS hSw; (try dsimp only at hSw); go_simp; try with_reducible rfl)
  try simp only [Act.put, List.setIfInBounds_toArray, List.set_cons_zero, List.set_cons_succ]
  refine rg_take (i := 2) (d := some 56) (l := #[true, true, true, false, false, false, false, false]) (fuel := 5) (v := ?_) rfl (by kernel_rfl) (by kernel_rfl) (by kernel_rfl) (by kernel_rfl) (by kernel_rfl) (fun _ _ _ h => h) (by kernel_rfl) ?_ (by assumption) ?_
  rotate_left 1
  · (intro wS hSw; (try dsimp only at hSw); go_simp; try with_reducible rfl)
  try simp only [Act.put, List.setIfInBounds_toArray, List.set_cons_zero, List.set_cons_succ]
  refine rg_take (i := 3) (d := some 57) (l := #[true, true, true, true, false, false, false, false]) (fuel := 4) (v := ?_) rfl (by kernel_rfl) (by kernel_rfl) (by kernel_rfl) (by kernel_rfl) (by kernel_rfl) (fun _ _ _ h => h) (by kernel_rfl) ?_ (by assumption) ?_
  rotate_left 1
  · (intro wS hSw; (try dsimp only at hSw); go_simp; try with_reducible rfl)
  try simp only [Act.put, List.setIfInBounds_toArray, List.set_cons_zero, List.set_cons_succ]
  refine rg_take (i := 4) (d := some 58) (l := #[true, true, true, true, true, false, false, false]) (fuel := 3) (v := ?_) rfl (by kernel_rfl) (by kernel_rfl) (by kernel_rfl) (by kernel_rfl) (by kernel_rfl) (fun _ _ _ h => h) (by kernel_rfl) ?_ (by assumption) ?_
  rotate_left 1
  · (intro wS hSw; (try dsimp only at hSw); go_simp; try with_reducible rfl)
  try simp only [Act.put, List.setIfInBounds_toArray, List.set_cons_zero, List.set_cons_succ]
  refine rg_take (i := 5) (d := some 59) (l := #[true, true, true, true, true, true, false, false]) (fuel := 2) (v := ?_) rfl (by kernel_rfl) (by kernel_rfl) (by kernel_rfl) (by kernel_rfl) (by kernel_rfl) (fun _ _ _ h => h) (by kernel_rfl) ?_ (by assumption) ?_
  rotate_left 1
  · (intro wS hSw; (try dsimp only at hSw); go_simp; try with_reducible rfl)
  try simp only [Act.put, List.setIfInBounds_toArray, List.set_cons_zero, List.set_cons_succ]
  refine rg_next (i := 6) (l := #[true, true, true, true, true, true, true, false]) (fuel := 1) (by kernel_rfl) rfl (by kernel_rfl) (by kernel_rfl) (fun K hK => ?_)
  go_simp
  (go_at_call 28)
  refine (word_any _ _ _).mono ?_
  rw [hW]
  rintro e w' ⟨rfl, rfl⟩
  first | (refine hK.out _ _ ?_ (fun hHeld => ?_)) | (go_wp2_with fail; refine hK.out _ _ ?_ (fun hHeld => ?_))
  · (try dsimp only); exact hHeld
  clear hK K
  try simp only [Act.put, List.setIfInBounds_toArray, List.set_cons_zero, List.set_cons_succ]
  refine rg_take (i := 7) (d := some 4) (l := #[true, true, true, true, true, true, true, true]) (fuel := 0) (v := ?_) rfl (by kernel_rfl) (by kernel_rfl) (by kernel_rfl) (by kernel_rfl) (by kernel_rfl) (fun _ _ _ h => h) (by kernel_rfl) ?_ (by assumption) ?_
  rotate_left 1
  · (intro wS hSw; (try dsimp only at hSw); go_simp; try with_reducible rfl)
  try simp only [Act.put, List.setIfInBounds_toArray, List.set_cons_zero, List.set_cons_succ]
  refine wpAnyH_done (by kernel_rfl) ?_ _
  go_wp2_with fail
  go_ret2
  exact ⟨by first | rfl | (simp only [e1]; rfl), by first | exact Below.refl _ _ | exact (Below.refl _ w).drew⟩
set_option maxHeartbeats 4000000 in
theorem maddr_7 (A : Option Addr) (c : Nat) (z : Nat → Int) (x y g : Int) (hc : 2 ≤ c) (x0 : 0 ≤ x) (x1 : x ≤ 255) (y0 : 0 ≤ y) (y1 : y ≤ 255) (w : World) (R : IRow w .u8 A 2 z) : Calls Tryd.prog 10 #[.int .u8 7, .slice A 2 c, .int .u8 x, .int .u8 y, .int .u16 g] w fun e w' => e = .returned (.tuple #[.int .u16 ((z 0 + 256 * z 1 + y) % 65536), .bool true]) ∧ Below w.heap.size w w' := by
  have hB := fun W => mbehind_any 7 W
  have hI := fun W => mindex_any 7 x y W
  rw [show mbP 7 = 2 from by decide] at hB
  rw [show mixP 7 x y = y from rfl] at hI
  obtain ⟨ad, rfl, hl, hc0, hw⟩ := R 0 (by omega)
  obtain ⟨z0, z1⟩ := bounds_u8 hw
  obtain ⟨ad', had, hl', hc2, hw'⟩ := R 1 (by omega)
  obtain rfl : ad = ad' := Option.some.inj had
  obtain ⟨z2, z3⟩ := bounds_u8 hw'
  have hc1 : w.cell? ad = some (.int .u8 (z 0)) := hc0
  have hc3 : w.cell? ⟨ad.block, ad.off + 1, none⟩ = some (.int .u8 (z 1)) := hc2
  have hW := wordI_eq (z 0) (z 1) z0 z1 z2 z3
  obtain ⟨q, hq⟩ : ∃ q, z 0 + 256 * z 1 = q := ⟨_, rfl⟩
  rw [hq] at hW
  have q0 : 0 ≤ q := by omega
  have q1 : q ≤ 65535 := by omega
  have e0 : IntKind.u16.wrap y = y := by rw [u16_mod]; omega
  have e1 : IntKind.u16.wrap (q + y) = (q + y) % 65536 := u16_mod _
  rw [hq]
  clear hq hc0 hc2 had
  go_enter Tryd.func10, Tryd.ntmps10
  go_wp2_with (first
    | (go_at_call 12; refine (hB _).mono ?_; rintro e w' ⟨rfl, rfl⟩)
    | (go_at_call 31; refine (hI _).mono ?_; rintro e w' ⟨rfl, rfl⟩))
  refine rg_begin (S := fun w' => w'.cell? ad = some (.int .u8 (z 0)) ∧ w'.cell? ⟨ad.block, ad.off + 1, none⟩ = some (.int .u8 (z 1))) 8 #[false, false, false, false, false, false, false, false] (by kernel_rfl) (by kernel_rfl) (by kernel_rfl) ?_ (fun hHeld => ?_)
  · exact ⟨hc1, hc3⟩
  refine rg_take (i := 0) (d := some 54) (l := #[true, false, false, false, false, false, false, false]) (fuel := 7) (v := ?_) rfl (by kernel_rfl) (by kernel_rfl) (by kernel_rfl) (by kernel_rfl) (by kernel_rfl) (fun _ _ _ h => h) (by kernel_rfl) ?_ (by assumption) ?_
  rotate_left 1
  · (intro wS hSw; (try dsimp only at hSw); go_simp; try with_reducible rfl)
  try simp only [Act.put, List.setIfInBounds_toArray, List.set_cons_zero, List.set_cons_succ]
  refine rg_take (i := 1) (d := some 55) (l := #[true, true, false, false, false, false, false, false]) (fuel := 6) (v := ?_) rfl (by kernel_rfl) (by kernel_rfl) (by kernel_rfl) (by kernel_rfl) (by kernel_rfl) (fun _ _ _ h => h) (by kernel_rfl) ?_ (by assumption) ?_
  rotate_left 1
  · (intro wS hSw; (try dsimp only at hSw); go_simp; try with_reducible rfl)
  try simp only [Act.put, List.setIfInBounds_toArray, List.set_cons_zero, List.set_cons_succ]
  refine rg_take (i := 2) (d := some 56) (l := #[true, true, true, false, false, false, false, false]) (fuel := 5) (v := ?_) rfl (by kernel_rfl) (by kernel_rfl) (by kernel_rfl) (by kernel_rfl) (by kernel_rfl) (fun _ _ _ h => h) (by kernel_rfl) ?_ (by assumption) ?_
  rotate_left 1
  · (intro wS hSw; (try dsimp only at hSw); go_simp; try with_reducible rfl)
  try simp only [Act.put, List.setIfInBounds_toArray, List.set_cons_zero, List.set_cons_succ]
  refine rg_take (i := 3) (d := some 57) (l := #[true, true, true, true, false, false, false, false]) (fuel := 4) (v := ?_) rfl (by kernel_rfl) (by kernel_rfl) (by kernel_rfl) (by kernel_rfl) (by kernel_rfl) (fun _ _ _ h => h) (by kernel_rfl) ?_ (by assumption) ?_
  rotate_left 1
  · (intro wS hSw; (try dsimp only at hSw); go_simp; try with_reducible rfl)
  try simp only [Act.put, List.setIfInBounds_toArray, List.set_cons_zero, List.set_cons_succ]
  refine rg_take (i := 4) (d := some 58) (l := #[true, true, true, true, true, false, false, false]) (fuel := 3) (v := ?_) rfl (by kernel_rfl) (by kernel_rfl) (by kernel_rfl) (by kernel_rfl) (by kernel_rfl) (fun _ _ _ h => h) (by kernel_rfl) ?_ (by assumption) ?_
  rotate_left 1
  · (intro wS hSw; (try dsimp only at hSw); go_simp; try with_reducible rfl)
  try simp only [Act.put, List.setIfInBounds_toArray, List.set_cons_zero, List.set_cons_succ]
  refine rg_take (i := 5) (d := some 59) (l := #[true, true, true, true, true, true, false, false]) (fuel := 2) (v := ?_) rfl (by kernel_rfl) (by kernel_rfl) (by kernel_rfl) (by kernel_rfl) (by kernel_rfl) (fun _ _ _ h => h) (by kernel_rfl) ?_ (by assumption) ?_
  rotate_left 1
  · (intro wS hSw; (try dsimp only at hSw); go_simp; try with_reducible rfl)
  try simp only [Act.put, List.setIfInBounds_toArray, List.set_cons_zero, List.set_cons_succ]
  refine rg_next (i := 6) (l := #[true, true, true, true, true, true, true, false]) (fuel := 1) (by kernel_rfl) rfl (by kernel_rfl) (by kernel_rfl) (fun K hK => ?_)
  go_simp
  (go_at_call 28)
  refine (word_any _ _ _).mono ?_
  rw [hW]
  rintro e w' ⟨rfl, rfl⟩
  first | (refine hK.out _ _ ?_ (fun hHeld => ?_)) | (go_wp2_with fail; refine hK.out _ _ ?_ (fun hHeld => ?_))
  · (try dsimp only); exact hHeld
  clear hK K
  try simp only [Act.put, List.setIfInBounds_toArray, List.set_cons_zero, List.set_cons_succ]
  refine rg_take (i := 7) (d := some 4) (l := #[true, true, true, true, true, true, true, true]) (fuel := 0) (v := ?_) rfl (by kernel_rfl) (by kernel_rfl) (by kernel_rfl) (by kernel_rfl) (by kernel_rfl) (fun _ _ _ h => h) (by kernel_rfl) ?_ (by assumption) ?_
  rotate_left 1
  · (intro wS hSw; (try dsimp only at hSw); go_simp; try with_reducible rfl)
  try simp only [Act.put, List.setIfInBounds_toArray, List.set_cons_zero, List.set_cons_succ]
  refine wpAnyH_done (by kernel_rfl) ?_ _
  go_wp2_with fail
  go_ret2
  exact ⟨by first | rfl | (simp only [e1]; rfl), by first | exact Below.refl _ _ | exact (Below.refl _ w).drew⟩
set_option maxHeartbeats 4000000 in
theorem maddr_15 (A : Option Addr) (c : Nat) (z : Nat → Int) (x y g : Int) (hc : 3 ≤ c) (x0 : 0 ≤ x) (x1 : x ≤ 255) (y0 : 0 ≤ y) (y1 : y ≤ 255) (w : World) (R : IRow w .u8 A 3 z) : Calls Tryd.prog 10 #[.int .u8 15, .slice A 3 c, .int .u8 x, .int .u8 y, .int .u16 g] w fun e w' => e = .returned (.tuple #[.int .u16 (z 1 + 256 * z 2), .bool true]) ∧ Below w.heap.size w w' := by
  have hB := fun W => mbehind_any 15 W
  have hI := fun W => mindex_any 15 x y W
  rw [show mbP 15 = 3 from by decide] at hB
  rw [show mixP 15 x y = 0 from rfl] at hI
  obtain ⟨ad, rfl, hl, hc0, hw⟩ := R 1 (by omega)
  obtain ⟨z0, z1⟩ := bounds_u8 hw
  obtain ⟨ad', had, hl', hc2, hw'⟩ := R 2 (by omega)
  obtain rfl : ad = ad' := Option.some.inj had
  obtain ⟨z2, z3⟩ := bounds_u8 hw'
  have hc1 : w.cell? ⟨ad.block, ad.off + 1, none⟩ = some (.int .u8 (z 1)) := hc0
  have hc3 : w.cell? ⟨ad.block, ad.off + 1 + 1, none⟩ = some (.int .u8 (z 2)) := hc2
  have hW := wordI_eq (z 1) (z 2) z0 z1 z2 z3
  obtain ⟨q, hq⟩ : ∃ q, z 1 + 256 * z 2 = q := ⟨_, rfl⟩
  rw [hq] at hW
  have q0 : 0 ≤ q := by omega
  have q1 : q ≤ 65535 := by omega
  have e1 : IntKind.u16.wrap q = q := by rw [u16_mod]; omega
  rw [hq]
  clear hq hc0 hc2 had
  go_enter Tryd.func10, Tryd.ntmps10
  go_wp2_with (first
    | (go_at_call 12; refine (hB _).mono ?_; rintro e w' ⟨rfl, rfl⟩)
    | (go_at_call 31; refine (hI _).mono ?_; rintro e w' ⟨rfl, rfl⟩))
  refine rg_begin (S := fun w' => w'.cell? ⟨ad.block, ad.off + 1, none⟩ = some (.int .u8 (z 1)) ∧ w'.cell? ⟨ad.block, ad.off + 1 + 1, none⟩ = some (.int .u8 (z 2)) ∧ w'.cell? ⟨ad.block, ad.off + 2, none⟩ = some (.int .u8 (z 2))) 8 #[false, false, false, false, false, false, false, false] (by kernel_rfl) (by kernel_rfl) (by kernel_rfl) ?_ (fun hHeld => ?_)
  · exact ⟨hc1, hc3, hc3⟩
  refine rg_take (i := 0) (d := some 54) (l := #[true, false, false, false, false, false, false, false]) (fuel := 7) (v := ?_) rfl (by kernel_rfl) (by kernel_rfl) (by kernel_rfl) (by kernel_rfl) (by kernel_rfl) (fun _ _ _ h => h) (by kernel_rfl) ?_ (by assumption) ?_
  rotate_left 1
  · (intro wS hSw; (try dsimp only at hSw); go_simp; try with_reducible rfl)
  try simp only [Act.put, List.setIfInBounds_toArray, List.set_cons_zero, List.set_cons_succ]
  refine rg_take (i := 1) (d := some 55) (l := #[true, true, false, false, false, false, false, false]) (fuel := 6) (v := ?_) rfl (by kernel_rfl) (by kernel_rfl) (by kernel_rfl) (by kernel_rfl) (by kernel_rfl) (fun _ _ _ h => h) (by kernel_rfl) ?_ (by assumption) ?_
  rotate_left 1
  · (intro wS hSw; (try dsimp only at hSw); go_simp; try with_reducible rfl)
  try simp only [Act.put, List.setIfInBounds_toArray, List.set_cons_zero, List.set_cons_succ]
  refine rg_take (i := 2) (d := some 56) (l := #[true, true, true, false, false, false, false, false]) (fuel := 5) (v := ?_) rfl (by kernel_rfl) (by kernel_rfl) (by kernel_rfl) (by kernel_rfl) (by kernel_rfl) (fun _ _ _ h => h) (by kernel_rfl) ?_ (by assumption) ?_
  rotate_left 1
  · (intro wS hSw; (try dsimp only at hSw); go_simp; try with_reducible rfl)
  try simp only [Act.put, List.setIfInBounds_toArray, List.set_cons_zero, List.set_cons_succ]
  refine rg_take (i := 3) (d := some 57) (l := #[true, true, true, true, false, false, false, false]) (fuel := 4) (v := ?_) rfl (by kernel_rfl) (by kernel_rfl) (by kernel_rfl) (by kernel_rfl) (by kernel_rfl) (fun _ _ _ h => h) (by kernel_rfl) ?_ (by assumption) ?_
  rotate_left 1
  · (intro wS hSw; (try dsimp only at hSw); go_simp; try with_reducible rfl)
  try simp only [Act.put, List.setIfInBounds_toArray, List.set_cons_zero, List.set_cons_succ]
  refine rg_take (i := 4) (d := some 58) (l := #[true, true, true, true, true, false, false, false]) (fuel := 3) (v := ?_) rfl (by kernel_rfl) (by kernel_rfl) (by kernel_rfl) (by kernel_rfl) (by kernel_rfl) (fun _ _ _ h => h) (by kernel_rfl) ?_ (by assumption) ?_
  rotate_left 1
  · (intro wS hSw; (try dsimp only at hSw); go_simp; try with_reducible rfl)
  try simp only [Act.put, List.setIfInBounds_toArray, List.set_cons_zero, List.set_cons_succ]
  refine rg_take (i := 5) (d := some 59) (l := #[true, true, true, true, true, true, false, false]) (fuel := 2) (v := ?_) rfl (by kernel_rfl) (by kernel_rfl) (by kernel_rfl) (by kernel_rfl) (by kernel_rfl) (fun _ _ _ h => h) (by kernel_rfl) ?_ (by assumption) ?_
  rotate_left 1
  · (intro wS hSw; (try dsimp only at hSw); go_simp; try with_reducible rfl)
  try simp only [Act.put, List.setIfInBounds_toArray, List.set_cons_zero, List.set_cons_succ]
  refine rg_next (i := 6) (l := #[true, true, true, true, true, true, true, false]) (fuel := 1) (by kernel_rfl) rfl (by kernel_rfl) (by kernel_rfl) (fun K hK => ?_)
  go_simp
  (go_at_call 28)
  refine (word_any _ _ _).mono ?_
  rw [hW]
  rintro e w' ⟨rfl, rfl⟩
  first | (refine hK.out _ _ ?_ (fun hHeld => ?_)) | (go_wp2_with fail; refine hK.out _ _ ?_ (fun hHeld => ?_))
  · (try dsimp only); exact hHeld
  clear hK K
  try simp only [Act.put, List.setIfInBounds_toArray, List.set_cons_zero, List.set_cons_succ]
  refine rg_take (i := 7) (d := some 4) (l := #[true, true, true, true, true, true, true, true]) (fuel := 0) (v := ?_) rfl (by kernel_rfl) (by kernel_rfl) (by kernel_rfl) (by kernel_rfl) (by kernel_rfl) (fun _ _ _ h => h) (by kernel_rfl) ?_ (by assumption) ?_
  rotate_left 1
  · (intro wS hSw; (try dsimp only at hSw); go_simp; try with_reducible rfl)
  try simp only [Act.put, List.setIfInBounds_toArray, List.set_cons_zero, List.set_cons_succ]
  refine wpAnyH_done (by kernel_rfl) ?_ _
  go_wp2_with fail
  go_ret2
  exact ⟨by first | rfl | (simp only [e1]; rfl), by first | exact Below.refl _ _ | exact (Below.refl _ w).drew⟩
set_option maxHeartbeats 4000000 in
theorem maddr_16 (A : Option Addr) (c : Nat) (z : Nat → Int) (x y g : Int) (hc : 3 ≤ c) (x0 : 0 ≤ x) (x1 : x ≤ 255) (y0 : 0 ≤ y) (y1 : y ≤ 255) (w : World) (R : IRow w .u8 A 3 z) : Calls Tryd.prog 10 #[.int .u8 16, .slice A 3 c, .int .u8 x, .int .u8 y, .int .u16 g] w fun e w' => e = .returned (.tuple #[.int .u16 ((z 1 + 256 * z 2 + x) % 65536), .bool true]) ∧ Below w.heap.size w w' := by
  have hB := fun W => mbehind_any 16 W
  have hI := fun W => mindex_any 16 x y W
  rw [show mbP 16 = 3 from by decide] at hB
  rw [show mixP 16 x y = x from rfl] at hI
  obtain ⟨ad, rfl, hl, hc0, hw⟩ := R 1 (by omega)
  obtain ⟨z0, z1⟩ := bounds_u8 hw
  obtain ⟨ad', had, hl', hc2, hw'⟩ := R 2 (by omega)
  obtain rfl : ad = ad' := Option.some.inj had
  obtain ⟨z2, z3⟩ := bounds_u8 hw'
  have hc1 : w.cell? ⟨ad.block, ad.off + 1, none⟩ = some (.int .u8 (z 1)) := hc0
  have hc3 : w.cell? ⟨ad.block, ad.off + 1 + 1, none⟩ = some (.int .u8 (z 2)) := hc2
  have hW := wordI_eq (z 1) (z 2) z0 z1 z2 z3
  obtain ⟨q, hq⟩ : ∃ q, z 1 + 256 * z 2 = q := ⟨_, rfl⟩
  rw [hq] at hW
  have q0 : 0 ≤ q := by omega
  have q1 : q ≤ 65535 := by omega
  have e0 : IntKind.u16.wrap x = x := by rw [u16_mod]; omega
  have e1 : IntKind.u16.wrap (q + x) = (q + x) % 65536 := u16_mod _
  rw [hq]
  clear hq hc0 hc2 had
  go_enter Tryd.func10, Tryd.ntmps10
  go_wp2_with (first
    | (go_at_call 12; refine (hB _).mono ?_; rintro e w' ⟨rfl, rfl⟩)
    | (go_at_call 31; refine (hI _).mono ?_; rintro e w' ⟨rfl, rfl⟩))
  refine rg_begin (S := fun w' => w'.cell? ⟨ad.block, ad.off + 1, none⟩ = some (.int .u8 (z 1)) ∧ w'.cell? ⟨ad.block, ad.off + 1 + 1, none⟩ = some (.int .u8 (z 2)) ∧ w'.cell? ⟨ad.block, ad.off + 2, none⟩ = some (.int .u8 (z 2))) 8 #[false, false, false, false, false, false, false, false] (by kernel_rfl) (by kernel_rfl) (by kernel_rfl) ?_ (fun hHeld => ?_)
  · exact ⟨hc1, hc3, hc3⟩
  refine rg_take (i := 0) (d := some 54) (l := #[true, false, false, false, false, false, false, false]) (fuel := 7) (v := ?_) rfl (by kernel_rfl) (by kernel_rfl) (by kernel_rfl) (by kernel_rfl) (by kernel_rfl) (fun _ _ _ h => h) (by kernel_rfl) ?_ (by assumption) ?_
  rotate_left 1
  · (intro wS hSw; (try dsimp only at hSw); go_simp; try with_reducible rfl)
  try simp only [Act.put, List.setIfInBounds_toArray, List.set_cons_zero, List.set_cons_succ]
  refine rg_take (i := 1) (d := some 55) (l := #[true, true, false, false, false, false, false, false]) (fuel := 6) (v := ?_) rfl (by kernel_rfl) (by kernel_rfl) (by kernel_rfl) (by kernel_rfl) (by kernel_rfl) (fun _ _ _ h => h) (by kernel_rfl) ?_ (by assumption) ?_
  rotate_left 1
  · (intro wS hSw; (try dsimp only at hSw); go_simp; try with_reducible rfl)
  try simp only [Act.put, List.setIfInBounds_toArray, List.set_cons_zero, List.set_cons_succ]
  refine rg_take (i := 2) (d := some 56) (l := #[true, true, true, false, false, false, false, false]) (fuel := 5) (v := ?_) rfl (by kernel_rfl) (by kernel_rfl) (by kernel_rfl) (by kernel_rfl) (by kernel_rfl) (fun _ _ _ h => h) (by kernel_rfl) ?_ (by assumption) ?_
  rotate_left 1
  · (intro wS hSw; (try dsimp only at hSw); go_simp; try with_reducible rfl)
  try simp only [Act.put, List.setIfInBounds_toArray, List.set_cons_zero, List.set_cons_succ]
  refine rg_take (i := 3) (d := some 57) (l := #[true, true, true, true, false, false, false, false]) (fuel := 4) (v := ?_) rfl (by kernel_rfl) (by kernel_rfl) (by kernel_rfl) (by kernel_rfl) (by kernel_rfl) (fun _ _ _ h => h) (by kernel_rfl) ?_ (by assumption) ?_
  rotate_left 1
  · (intro wS hSw; (try dsimp only at hSw); go_simp; try with_reducible rfl)
  try simp only [Act.put, List.setIfInBounds_toArray, List.set_cons_zero, List.set_cons_succ]
  refine rg_take (i := 4) (d := some 58) (l := #[true, true, true, true, true, false, false, false]) (fuel := 3) (v := ?_) rfl (by kernel_rfl) (by kernel_rfl) (by kernel_rfl) (by kernel_rfl) (by kernel_rfl) (fun _ _ _ h => h) (by kernel_rfl) ?_ (by assumption) ?_
  rotate_left 1
  · (intro wS hSw; (try dsimp only at hSw); go_simp; try with_reducible rfl)
  try simp only [Act.put, List.setIfInBounds_toArray, List.set_cons_zero, List.set_cons_succ]
  refine rg_take (i := 5) (d := some 59) (l := #[true, true, true, true, true, true, false, false]) (fuel := 2) (v := ?_) rfl (by kernel_rfl) (by kernel_rfl) (by kernel_rfl) (by kernel_rfl) (by kernel_rfl) (fun _ _ _ h => h) (by kernel_rfl) ?_ (by assumption) ?_
  rotate_left 1
  · (intro wS hSw; (try dsimp only at hSw); go_simp; try with_reducible rfl)
  try simp only [Act.put, List.setIfInBounds_toArray, List.set_cons_zero, List.set_cons_succ]
  refine rg_next (i := 6) (l := #[true, true, true, true, true, true, true, false]) (fuel := 1) (by kernel_rfl) rfl (by kernel_rfl) (by kernel_rfl) (fun K hK => ?_)
  go_simp
  (go_at_call 28)
  refine (word_any _ _ _).mono ?_
  rw [hW]
  rintro e w' ⟨rfl, rfl⟩
  first | (refine hK.out _ _ ?_ (fun hHeld => ?_)) | (go_wp2_with fail; refine hK.out _ _ ?_ (fun hHeld => ?_))
  · (try dsimp only); exact hHeld
  clear hK K
  try simp only [Act.put, List.setIfInBounds_toArray, List.set_cons_zero, List.set_cons_succ]
  refine rg_take (i := 7) (d := some 4) (l := #[true, true, true, true, true, true, true, true]) (fuel := 0) (v := ?_) rfl (by kernel_rfl) (by kernel_rfl) (by kernel_rfl) (by kernel_rfl) (by kernel_rfl) (fun _ _ _ h => h) (by kernel_rfl) ?_ (by assumption) ?_
  rotate_left 1
  · (intro wS hSw; (try dsimp only at hSw); go_simp; try with_reducible rfl)
  try simp only [Act.put, List.setIfInBounds_toArray, List.set_cons_zero, List.set_cons_succ]
  refine wpAnyH_done (by kernel_rfl) ?_ _
  go_wp2_with fail
  go_ret2
  exact ⟨by first | rfl | (simp only [e1]; rfl), by first | exact Below.refl _ _ | exact (Below.refl _ w).drew⟩
end Go.Proofs.YtdhnnegigjjoeaaDoor
namespace Go.Proofs.YtdhnnegigjjoeaaDoor
open Go.RowKit
set_option linter.unusedVariables false
set_option linter.unusedSimpArgs false
set_option maxRecDepth 100000
set_option maxHeartbeats 4000000 in
theorem maddr_len (m : Nat) (A : Option Addr) (n c : Nat) (x y g : Int) (hn : (n : Int) ≠ mbP m) (w : World) : Calls Tryd.prog 10 #[.int .u8 (m : Int), .slice A n c, .int .u8 x, .int .u8 y, .int .u16 g] w fun e w' => e = .returned (.tuple #[.int .u16 0, .bool false]) ∧ w = w' := by
  have hB := mbehind_any m
  obtain ⟨q, hq⟩ : ∃ q, mbP m = q := ⟨_, rfl⟩
  rw [hq] at hB hn
  clear hq
  go_enter Tryd.func10, Tryd.ntmps10
  go_wp2_with (go_at_call 12; refine (hB _).mono ?_; rintro e w' ⟨rfl, rfl⟩)
  go_ret2
  exact ⟨rfl, rfl⟩
set_option maxHeartbeats 4000000 in
theorem maddr_no (m : Nat) (A : Option Addr) (n c : Nat) (x y g : Int) (hm : m < 2 ∨ m = 11 ∨ 18 < m) (w : World) : Calls Tryd.prog 10 #[.int .u8 (m : Int), .slice A n c, .int .u8 x, .int .u8 y, .int .u16 g] w fun e w' => e = .returned (.tuple #[.int .u16 0, .bool false]) ∧ w = w' := by
  by_cases hn : (n : Int) = mbP m
  · have hB := mbehind_any m
    have hI := fun W => mindex_any m x y W
    obtain ⟨q, hq⟩ : ∃ q, mbP m = q := ⟨_, rfl⟩
    rw [hq] at hB hn
    obtain ⟨i, hi⟩ : ∃ i, mixP m x y = i := ⟨_, rfl⟩
    rw [hi] at hI
    have k2 : (m : Int) ≠ 2 := by omega
    have k3 : (m : Int) ≠ 3 := by omega
    have k4 : (m : Int) ≠ 4 := by omega
    have k5 : (m : Int) ≠ 5 := by omega
    have k6 : (m : Int) ≠ 6 := by omega
    have k7 : (m : Int) ≠ 7 := by omega
    have k8 : (m : Int) ≠ 8 := by omega
    have k9 : (m : Int) ≠ 9 := by omega
    have k10 : (m : Int) ≠ 10 := by omega
    have k12 : (m : Int) ≠ 12 := by omega
    have k13 : (m : Int) ≠ 13 := by omega
    have k14 : (m : Int) ≠ 14 := by omega
    have k15 : (m : Int) ≠ 15 := by omega
    have k16 : (m : Int) ≠ 16 := by omega
    have k17 : (m : Int) ≠ 17 := by omega
    have k18 : (m : Int) ≠ 18 := by omega
    clear hq hi hm
    go_enter Tryd.func10, Tryd.ntmps10
    go_wp2_with (first
      | (go_at_call 12; refine (hB _).mono ?_; rintro e w' ⟨rfl, rfl⟩)
      | (go_at_call 31; refine (hI _).mono ?_; rintro e w' ⟨rfl, rfl⟩))
    go_ret2
    exact ⟨rfl, rfl⟩
  · exact maddr_len m A n c x y g hn w
end Go.Proofs.YtdhnnegigjjoeaaDoor
namespace Go.Proofs.YtdhnnegigjjoeaaDoor
open Go.RowKit
set_option linter.unusedVariables false
set_option linter.unusedSimpArgs false
set_option maxRecDepth 100000
theorem rzero_any (b : Int) (b0 : 0 ≤ b) (b1 : b ≤ 255) (w : World) : Calls Tryd.prog 29 #[.int .u8 b] w fun e w' => e = .returned (.int .u16 (8192 + b)) ∧ w' = w := by
  go_enter Tryd.func29, Tryd.ntmps29
  go_wp2
  go_ret
  exact ⟨by go_num, rfl⟩
theorem rword_any (l h : Int) (l0 : 0 ≤ l) (l1 : l ≤ 255) (h0 : 0 ≤ h) (h1 : h ≤ 255) (w : World) : Calls Tryd.prog 30 #[.int .u8 l, .int .u8 h] w fun e w' => e = .returned (.int .u16 (l + 256 * h)) ∧ w' = w := by
  go_enter Tryd.func30, Tryd.ntmps30
  go_wp2
  go_ret
  exact ⟨by go_num, rfl⟩
theorem IRow.ptr {w : World} {k : IntKind} {A : Option Addr} {n : Nat} {z : Nat → Int} (R : IRow w k A n z) (h : 0 < n) : ∃ ad, A = some ad := by
  obtain ⟨ad, e, _⟩ := R 0 h
  exact ⟨ad, e⟩
theorem IRow.first {w : World} {k : IntKind} {A : Option Addr} {n : Nat} {z : Nat → Int} (R : IRow w k A n z) (m : Nat) (h : m ≤ n) : IRow w k A m z := fun i hi => R i (by omega)
theorem IRow.bd {w : World} {A : Option Addr} {n : Nat} {z : Nat → Int} (R : IRow w .u8 A n z) (i : Nat) (h : i < n) : 0 ≤ z i ∧ z i ≤ 255 := by
  obtain ⟨ad, e, _, _, hw⟩ := R i h
  exact bounds_u8 hw
theorem IRow.cellv {w : World} {ad : Addr} {n : Nat} {z : Nat → Int} (R : IRow w .u8 (some ad) n z) (i : Nat) (h : i < n) : w.cell? (ad.add i) = some (.int .u8 (z i)) := by
  obtain ⟨ad', e, _, hc, _⟩ := R i h
  cases e
  exact hc
set_option maxHeartbeats 4000000 in
theorem rptr_8 (A : Option Addr) (c : Nat) (z : Nat → Int) (x : Int) (x0 : 0 ≤ x) (x1 : x ≤ 255) (hc : 1 ≤ c) (w : World) (R : IRow w .u8 A 1 z) : Calls Tryd.prog 9 #[.int .u8 8, .slice A 1 c, .int .u8 x] w fun e w' => e = .returned (.tuple (zpP (z 0))) ∧ Below w.heap.size w w' := by
  have hB := fun W => rmbehind_any 8 (by decide) W
  rw [show mbP 8 = 1 by decide] at hB
  obtain ⟨z00, z01⟩ := (R.bd 0 (by decide))
  obtain ⟨ad, rfl⟩ := R.ptr (by decide)
  have HR := Lib.hid R
  clear R
  go_enter Tryd.func9, Tryd.ntmps9
  go_wp2_with fail
  refine (hB _).mono ?_
  rintro e w1 ⟨rfl, hb1⟩
  have R1 := HR.out.keep hb1
  have HB1 := Lib.hid hb1
  have hc0 : w1.cell? ad = some (.int .u8 (z 0)) := R1.cellv 0 (by decide)
  clear hb1 R1
  go_wp2_with (first | (go_at_call 29; refine (rzero_any _ (by first | omega | (rw [u8_mod]; omega)) (by first | omega | (rw [u8_mod]; omega)) _).mono ?_; rintro e w' ⟨rfl, rfl⟩) | (go_at_call 30; refine (rword_any _ _ (by omega) (by omega) (by omega) (by omega) _).mono ?_; rintro e w' ⟨rfl, rfl⟩))
  try go_quiet (first | (go_at_call 29; refine Calls.quiet_of_same (rzero_any _ (by first | omega | (rw [u8_mod]; omega)) (by first | omega | (rw [u8_mod]; omega)) _)) | (go_at_call 30; refine Calls.quiet_of_same (rword_any _ _ (by omega) (by omega) (by omega) (by omega) _)))
  try go_wp2_with (first | (go_at_call 29; refine (rzero_any _ (by first | omega | (rw [u8_mod]; omega)) (by first | omega | (rw [u8_mod]; omega)) _).mono ?_; rintro e w' ⟨rfl, rfl⟩) | (go_at_call 30; refine (rword_any _ _ (by omega) (by omega) (by omega) (by omega) _).mono ?_; rintro e w' ⟨rfl, rfl⟩))

  go_ret3
  exact ⟨by first | rfl | (simp [u8_mod, u16_mod, zpP, wpP]; try omega), by first | exact HB1.out | exact HB1.out.drew | exact below_drewN HB1.out _⟩
set_option maxHeartbeats 4000000 in
theorem rptr_10 (A : Option Addr) (c : Nat) (z : Nat → Int) (x : Int) (x0 : 0 ≤ x) (x1 : x ≤ 255) (hc : 1 ≤ c) (w : World) (R : IRow w .u8 A 1 z) : Calls Tryd.prog 9 #[.int .u8 10, .slice A 1 c, .int .u8 x] w fun e w' => e = .returned (.tuple (zpP (z 0))) ∧ Below w.heap.size w w' := by
  have hB := fun W => rmbehind_any 10 (by decide) W
  rw [show mbP 10 = 1 by decide] at hB
  obtain ⟨z00, z01⟩ := (R.bd 0 (by decide))
  obtain ⟨ad, rfl⟩ := R.ptr (by decide)
  have HR := Lib.hid R
  clear R
  go_enter Tryd.func9, Tryd.ntmps9
  go_wp2_with fail
  refine (hB _).mono ?_
  rintro e w1 ⟨rfl, hb1⟩
  have R1 := HR.out.keep hb1
  have HB1 := Lib.hid hb1
  have hc0 : w1.cell? ad = some (.int .u8 (z 0)) := R1.cellv 0 (by decide)
  clear hb1 R1
  go_wp2_with (first | (go_at_call 29; refine (rzero_any _ (by first | omega | (rw [u8_mod]; omega)) (by first | omega | (rw [u8_mod]; omega)) _).mono ?_; rintro e w' ⟨rfl, rfl⟩) | (go_at_call 30; refine (rword_any _ _ (by omega) (by omega) (by omega) (by omega) _).mono ?_; rintro e w' ⟨rfl, rfl⟩))
  try go_quiet (first | (go_at_call 29; refine Calls.quiet_of_same (rzero_any _ (by first | omega | (rw [u8_mod]; omega)) (by first | omega | (rw [u8_mod]; omega)) _)) | (go_at_call 30; refine Calls.quiet_of_same (rword_any _ _ (by omega) (by omega) (by omega) (by omega) _)))
  try go_wp2_with (first | (go_at_call 29; refine (rzero_any _ (by first | omega | (rw [u8_mod]; omega)) (by first | omega | (rw [u8_mod]; omega)) _).mono ?_; rintro e w' ⟨rfl, rfl⟩) | (go_at_call 30; refine (rword_any _ _ (by omega) (by omega) (by omega) (by omega) _).mono ?_; rintro e w' ⟨rfl, rfl⟩))

  go_ret3
  exact ⟨by first | rfl | (simp [u8_mod, u16_mod, zpP, wpP]; try omega), by first | exact HB1.out | exact HB1.out.drew | exact below_drewN HB1.out _⟩
set_option maxHeartbeats 4000000 in
theorem rptr_9 (A : Option Addr) (c : Nat) (z : Nat → Int) (x : Int) (x0 : 0 ≤ x) (x1 : x ≤ 255) (hc : 1 ≤ c) (w : World) (R : IRow w .u8 A 1 z) : Calls Tryd.prog 9 #[.int .u8 9, .slice A 1 c, .int .u8 x] w fun e w' => e = .returned (.tuple (zpP ((z 0 + x) % 256))) ∧ Below w.heap.size w w' := by
  have hB := fun W => rmbehind_any 9 (by decide) W
  rw [show mbP 9 = 1 by decide] at hB
  obtain ⟨z00, z01⟩ := (R.bd 0 (by decide))
  obtain ⟨ad, rfl⟩ := R.ptr (by decide)
  have HR := Lib.hid R
  clear R
  go_enter Tryd.func9, Tryd.ntmps9
  go_wp2_with fail
  refine (hB _).mono ?_
  rintro e w1 ⟨rfl, hb1⟩
  have R1 := HR.out.keep hb1
  have HB1 := Lib.hid hb1
  have hc0 : w1.cell? ad = some (.int .u8 (z 0)) := R1.cellv 0 (by decide)
  clear hb1 R1
  go_wp2_with (first | (go_at_call 29; refine (rzero_any _ (by first | omega | (rw [u8_mod]; omega)) (by first | omega | (rw [u8_mod]; omega)) _).mono ?_; rintro e w' ⟨rfl, rfl⟩) | (go_at_call 30; refine (rword_any _ _ (by omega) (by omega) (by omega) (by omega) _).mono ?_; rintro e w' ⟨rfl, rfl⟩))
  try go_quiet (first | (go_at_call 29; refine Calls.quiet_of_same (rzero_any _ (by first | omega | (rw [u8_mod]; omega)) (by first | omega | (rw [u8_mod]; omega)) _)) | (go_at_call 30; refine Calls.quiet_of_same (rword_any _ _ (by omega) (by omega) (by omega) (by omega) _)))
  try go_wp2_with (first | (go_at_call 29; refine (rzero_any _ (by first | omega | (rw [u8_mod]; omega)) (by first | omega | (rw [u8_mod]; omega)) _).mono ?_; rintro e w' ⟨rfl, rfl⟩) | (go_at_call 30; refine (rword_any _ _ (by omega) (by omega) (by omega) (by omega) _).mono ?_; rintro e w' ⟨rfl, rfl⟩))

  go_ret3
  exact ⟨by first | rfl | (simp [u8_mod, u16_mod, zpP, wpP]; try omega), by first | exact HB1.out | exact HB1.out.drew | exact below_drewN HB1.out _⟩
set_option maxHeartbeats 4000000 in
theorem rptr_17 (A : Option Addr) (c : Nat) (z : Nat → Int) (x : Int) (x0 : 0 ≤ x) (x1 : x ≤ 255) (hc : 2 ≤ c) (w : World) (R : IRow w .u8 A 2 z) : Calls Tryd.prog 9 #[.int .u8 17, .slice A 2 c, .int .u8 x] w fun e w' => e = .returned (.tuple (wpP (z 0 + 256 * z 1))) ∧ Below w.heap.size w w' := by
  have hB := fun W => rmbehind_any 17 (by decide) W
  rw [show mbP 17 = 2 by decide] at hB
  obtain ⟨z00, z01⟩ := (R.bd 0 (by decide))
  obtain ⟨z10, z11⟩ := (R.bd 1 (by decide))
  obtain ⟨ad, rfl⟩ := R.ptr (by decide)
  have HR := Lib.hid R
  clear R
  go_enter Tryd.func9, Tryd.ntmps9
  go_wp2_with fail
  refine (hB _).mono ?_
  rintro e w1 ⟨rfl, hb1⟩
  have R1 := HR.out.keep hb1
  have HB1 := Lib.hid hb1
  have hc0 : w1.cell? ad = some (.int .u8 (z 0)) := R1.cellv 0 (by decide)
  have hc1 : w1.cell? ⟨ad.block, ad.off + 1, none⟩ = some (.int .u8 (z 1)) := R1.cellv 1 (by decide)
  clear hb1 R1
  go_wp2_with (first | (go_at_call 29; refine (rzero_any _ (by first | omega | (rw [u8_mod]; omega)) (by first | omega | (rw [u8_mod]; omega)) _).mono ?_; rintro e w' ⟨rfl, rfl⟩) | (go_at_call 30; refine (rword_any _ _ (by omega) (by omega) (by omega) (by omega) _).mono ?_; rintro e w' ⟨rfl, rfl⟩))
  try go_quiet (first | (go_at_call 29; refine Calls.quiet_of_same (rzero_any _ (by first | omega | (rw [u8_mod]; omega)) (by first | omega | (rw [u8_mod]; omega)) _)) | (go_at_call 30; refine Calls.quiet_of_same (rword_any _ _ (by omega) (by omega) (by omega) (by omega) _)))
  try go_wp2_with (first | (go_at_call 29; refine (rzero_any _ (by first | omega | (rw [u8_mod]; omega)) (by first | omega | (rw [u8_mod]; omega)) _).mono ?_; rintro e w' ⟨rfl, rfl⟩) | (go_at_call 30; refine (rword_any _ _ (by omega) (by omega) (by omega) (by omega) _).mono ?_; rintro e w' ⟨rfl, rfl⟩))

  go_ret3
  exact ⟨by first | rfl | (simp [u8_mod, u16_mod, zpP, wpP]; try omega), by first | exact HB1.out | exact HB1.out.drew | exact below_drewN HB1.out _⟩
set_option maxHeartbeats 4000000 in
theorem rptr_18 (A : Option Addr) (c : Nat) (z : Nat → Int) (x : Int) (x0 : 0 ≤ x) (x1 : x ≤ 255) (hc : 2 ≤ c) (w : World) (R : IRow w .u8 A 2 z) : Calls Tryd.prog 9 #[.int .u8 18, .slice A 2 c, .int .u8 x] w fun e w' => e = .returned (.tuple (wpP ((z 0 + 256 * z 1 + x) % 65536))) ∧ Below w.heap.size w w' := by
  have hB := fun W => rmbehind_any 18 (by decide) W
  rw [show mbP 18 = 2 by decide] at hB
  obtain ⟨z00, z01⟩ := (R.bd 0 (by decide))
  obtain ⟨z10, z11⟩ := (R.bd 1 (by decide))
  obtain ⟨ad, rfl⟩ := R.ptr (by decide)
  have HR := Lib.hid R
  clear R
  go_enter Tryd.func9, Tryd.ntmps9
  go_wp2_with fail
  refine (hB _).mono ?_
  rintro e w1 ⟨rfl, hb1⟩
  have R1 := HR.out.keep hb1
  have HB1 := Lib.hid hb1
  have hc0 : w1.cell? ad = some (.int .u8 (z 0)) := R1.cellv 0 (by decide)
  have hc1 : w1.cell? ⟨ad.block, ad.off + 1, none⟩ = some (.int .u8 (z 1)) := R1.cellv 1 (by decide)
  clear hb1 R1
  go_wp2_with (first | (go_at_call 29; refine (rzero_any _ (by first | omega | (rw [u8_mod]; omega)) (by first | omega | (rw [u8_mod]; omega)) _).mono ?_; rintro e w' ⟨rfl, rfl⟩) | (go_at_call 30; refine (rword_any _ _ (by omega) (by omega) (by omega) (by omega) _).mono ?_; rintro e w' ⟨rfl, rfl⟩))
  try go_quiet (first | (go_at_call 29; refine Calls.quiet_of_same (rzero_any _ (by first | omega | (rw [u8_mod]; omega)) (by first | omega | (rw [u8_mod]; omega)) _)) | (go_at_call 30; refine Calls.quiet_of_same (rword_any _ _ (by omega) (by omega) (by omega) (by omega) _)))
  try go_wp2_with (first | (go_at_call 29; refine (rzero_any _ (by first | omega | (rw [u8_mod]; omega)) (by first | omega | (rw [u8_mod]; omega)) _).mono ?_; rintro e w' ⟨rfl, rfl⟩) | (go_at_call 30; refine (rword_any _ _ (by omega) (by omega) (by omega) (by omega) _).mono ?_; rintro e w' ⟨rfl, rfl⟩))

  go_ret3
  exact ⟨by first | rfl | (simp [u8_mod, u16_mod, zpP, wpP]; try omega), by first | exact HB1.out | exact HB1.out.drew | exact below_drewN HB1.out _⟩
set_option maxHeartbeats 4000000 in
theorem raddr_2 (A : Option Addr) (c : Nat) (z : Nat → Int) (x y g : Int) (x0 : 0 ≤ x) (x1 : x ≤ 255) (y0 : 0 ≤ y) (y1 : y ≤ 255) (g0 : 0 ≤ g) (g1 : g ≤ 65535) (hc : 1 ≤ c) (w : World) (R : IRow w .u8 A 1 z) : Calls Tryd.prog 11 #[.int .u8 2, .slice A 1 c, .int .u8 x, .int .u8 y, .int .u16 g] w fun e w' => e = .returned (.tuple (#[.int .u16 (8192 + z 0), .bool true])) ∧ Below w.heap.size w w' := by
  have hB := fun W => rmbehind_any 2 (by decide) W
  rw [show mbP 2 = 1 by decide] at hB
  obtain ⟨z00, z01⟩ := (R.bd 0 (by decide))
  obtain ⟨ad, rfl⟩ := R.ptr (by decide)
  have HR := Lib.hid R
  clear R
  go_enter Tryd.func11, Tryd.ntmps11
  go_wp2_with fail
  refine (hB _).mono ?_
  rintro e w1 ⟨rfl, hb1⟩
  have R1 := HR.out.keep hb1
  have HB1 := Lib.hid hb1
  have hc0 : w1.cell? ad = some (.int .u8 (z 0)) := R1.cellv 0 (by decide)
  clear hb1 R1
  go_wp2_with (first | (go_at_call 29; refine (rzero_any _ (by first | omega | (rw [u8_mod]; omega)) (by first | omega | (rw [u8_mod]; omega)) _).mono ?_; rintro e w' ⟨rfl, rfl⟩) | (go_at_call 30; refine (rword_any _ _ (by omega) (by omega) (by omega) (by omega) _).mono ?_; rintro e w' ⟨rfl, rfl⟩))
  try go_quiet (first | (go_at_call 29; refine Calls.quiet_of_same (rzero_any _ (by first | omega | (rw [u8_mod]; omega)) (by first | omega | (rw [u8_mod]; omega)) _)) | (go_at_call 30; refine Calls.quiet_of_same (rword_any _ _ (by omega) (by omega) (by omega) (by omega) _)))
  try go_wp2_with (first | (go_at_call 29; refine (rzero_any _ (by first | omega | (rw [u8_mod]; omega)) (by first | omega | (rw [u8_mod]; omega)) _).mono ?_; rintro e w' ⟨rfl, rfl⟩) | (go_at_call 30; refine (rword_any _ _ (by omega) (by omega) (by omega) (by omega) _).mono ?_; rintro e w' ⟨rfl, rfl⟩))

  go_ret2
  exact ⟨by first | rfl | (simp [u8_mod, u16_mod, zpP, wpP]; try omega), by first | exact HB1.out | exact HB1.out.drew | exact below_drewN HB1.out _⟩
set_option maxHeartbeats 4000000 in
theorem raddr_12 (A : Option Addr) (c : Nat) (z : Nat → Int) (x y g : Int) (x0 : 0 ≤ x) (x1 : x ≤ 255) (y0 : 0 ≤ y) (y1 : y ≤ 255) (g0 : 0 ≤ g) (g1 : g ≤ 65535) (hc : 2 ≤ c) (w : World) (R : IRow w .u8 A 2 z) : Calls Tryd.prog 11 #[.int .u8 12, .slice A 2 c, .int .u8 x, .int .u8 y, .int .u16 g] w fun e w' => e = .returned (.tuple (#[.int .u16 (8192 + z 0), .bool true])) ∧ Below w.heap.size w w' := by
  have hB := fun W => rmbehind_any 12 (by decide) W
  rw [show mbP 12 = 2 by decide] at hB
  obtain ⟨z00, z01⟩ := (R.bd 0 (by decide))
  obtain ⟨z10, z11⟩ := (R.bd 1 (by decide))
  obtain ⟨ad, rfl⟩ := R.ptr (by decide)
  have HR := Lib.hid R
  clear R
  go_enter Tryd.func11, Tryd.ntmps11
  go_wp2_with fail
  refine (hB _).mono ?_
  rintro e w1 ⟨rfl, hb1⟩
  have R1 := HR.out.keep hb1
  have HB1 := Lib.hid hb1
  have hc0 : w1.cell? ad = some (.int .u8 (z 0)) := R1.cellv 0 (by decide)
  clear hb1 R1
  go_wp2_with (first | (go_at_call 29; refine (rzero_any _ (by first | omega | (rw [u8_mod]; omega)) (by first | omega | (rw [u8_mod]; omega)) _).mono ?_; rintro e w' ⟨rfl, rfl⟩) | (go_at_call 30; refine (rword_any _ _ (by omega) (by omega) (by omega) (by omega) _).mono ?_; rintro e w' ⟨rfl, rfl⟩))
  try go_quiet (first | (go_at_call 29; refine Calls.quiet_of_same (rzero_any _ (by first | omega | (rw [u8_mod]; omega)) (by first | omega | (rw [u8_mod]; omega)) _)) | (go_at_call 30; refine Calls.quiet_of_same (rword_any _ _ (by omega) (by omega) (by omega) (by omega) _)))
  try go_wp2_with (first | (go_at_call 29; refine (rzero_any _ (by first | omega | (rw [u8_mod]; omega)) (by first | omega | (rw [u8_mod]; omega)) _).mono ?_; rintro e w' ⟨rfl, rfl⟩) | (go_at_call 30; refine (rword_any _ _ (by omega) (by omega) (by omega) (by omega) _).mono ?_; rintro e w' ⟨rfl, rfl⟩))

  go_ret2
  exact ⟨by first | rfl | (simp [u8_mod, u16_mod, zpP, wpP]; try omega), by first | exact HB1.out | exact HB1.out.drew | exact below_drewN HB1.out _⟩
set_option maxHeartbeats 4000000 in
theorem raddr_3 (A : Option Addr) (c : Nat) (z : Nat → Int) (x y g : Int) (x0 : 0 ≤ x) (x1 : x ≤ 255) (y0 : 0 ≤ y) (y1 : y ≤ 255) (g0 : 0 ≤ g) (g1 : g ≤ 65535) (hc : 1 ≤ c) (w : World) (R : IRow w .u8 A 1 z) : Calls Tryd.prog 11 #[.int .u8 3, .slice A 1 c, .int .u8 x, .int .u8 y, .int .u16 g] w fun e w' => e = .returned (.tuple (#[.int .u16 (8192 + (z 0 + x) % 256), .bool true])) ∧ Below w.heap.size w w' := by
  have hB := fun W => rmbehind_any 3 (by decide) W
  rw [show mbP 3 = 1 by decide] at hB
  obtain ⟨z00, z01⟩ := (R.bd 0 (by decide))
  obtain ⟨ad, rfl⟩ := R.ptr (by decide)
  have HR := Lib.hid R
  clear R
  go_enter Tryd.func11, Tryd.ntmps11
  go_wp2_with fail
  refine (hB _).mono ?_
  rintro e w1 ⟨rfl, hb1⟩
  have R1 := HR.out.keep hb1
  have HB1 := Lib.hid hb1
  have hc0 : w1.cell? ad = some (.int .u8 (z 0)) := R1.cellv 0 (by decide)
  clear hb1 R1
  go_wp2_with (first | (go_at_call 29; refine (rzero_any _ (by first | omega | (rw [u8_mod]; omega)) (by first | omega | (rw [u8_mod]; omega)) _).mono ?_; rintro e w' ⟨rfl, rfl⟩) | (go_at_call 30; refine (rword_any _ _ (by omega) (by omega) (by omega) (by omega) _).mono ?_; rintro e w' ⟨rfl, rfl⟩))
  try go_quiet (first | (go_at_call 29; refine Calls.quiet_of_same (rzero_any _ (by first | omega | (rw [u8_mod]; omega)) (by first | omega | (rw [u8_mod]; omega)) _)) | (go_at_call 30; refine Calls.quiet_of_same (rword_any _ _ (by omega) (by omega) (by omega) (by omega) _)))
  try go_wp2_with (first | (go_at_call 29; refine (rzero_any _ (by first | omega | (rw [u8_mod]; omega)) (by first | omega | (rw [u8_mod]; omega)) _).mono ?_; rintro e w' ⟨rfl, rfl⟩) | (go_at_call 30; refine (rword_any _ _ (by omega) (by omega) (by omega) (by omega) _).mono ?_; rintro e w' ⟨rfl, rfl⟩))

  go_ret2
  exact ⟨by first | rfl | (simp [u8_mod, u16_mod, zpP, wpP]; try omega), by first | exact HB1.out | exact HB1.out.drew | exact below_drewN HB1.out _⟩
set_option maxHeartbeats 4000000 in
theorem raddr_4 (A : Option Addr) (c : Nat) (z : Nat → Int) (x y g : Int) (x0 : 0 ≤ x) (x1 : x ≤ 255) (y0 : 0 ≤ y) (y1 : y ≤ 255) (g0 : 0 ≤ g) (g1 : g ≤ 65535) (hc : 1 ≤ c) (w : World) (R : IRow w .u8 A 1 z) : Calls Tryd.prog 11 #[.int .u8 4, .slice A 1 c, .int .u8 x, .int .u8 y, .int .u16 g] w fun e w' => e = .returned (.tuple (#[.int .u16 (8192 + (z 0 + y) % 256), .bool true])) ∧ Below w.heap.size w w' := by
  have hB := fun W => rmbehind_any 4 (by decide) W
  rw [show mbP 4 = 1 by decide] at hB
  obtain ⟨z00, z01⟩ := (R.bd 0 (by decide))
  obtain ⟨ad, rfl⟩ := R.ptr (by decide)
  have HR := Lib.hid R
  clear R
  go_enter Tryd.func11, Tryd.ntmps11
  go_wp2_with fail
  refine (hB _).mono ?_
  rintro e w1 ⟨rfl, hb1⟩
  have R1 := HR.out.keep hb1
  have HB1 := Lib.hid hb1
  have hc0 : w1.cell? ad = some (.int .u8 (z 0)) := R1.cellv 0 (by decide)
  clear hb1 R1
  go_wp2_with (first | (go_at_call 29; refine (rzero_any _ (by first | omega | (rw [u8_mod]; omega)) (by first | omega | (rw [u8_mod]; omega)) _).mono ?_; rintro e w' ⟨rfl, rfl⟩) | (go_at_call 30; refine (rword_any _ _ (by omega) (by omega) (by omega) (by omega) _).mono ?_; rintro e w' ⟨rfl, rfl⟩))
  try go_quiet (first | (go_at_call 29; refine Calls.quiet_of_same (rzero_any _ (by first | omega | (rw [u8_mod]; omega)) (by first | omega | (rw [u8_mod]; omega)) _)) | (go_at_call 30; refine Calls.quiet_of_same (rword_any _ _ (by omega) (by omega) (by omega) (by omega) _)))
  try go_wp2_with (first | (go_at_call 29; refine (rzero_any _ (by first | omega | (rw [u8_mod]; omega)) (by first | omega | (rw [u8_mod]; omega)) _).mono ?_; rintro e w' ⟨rfl, rfl⟩) | (go_at_call 30; refine (rword_any _ _ (by omega) (by omega) (by omega) (by omega) _).mono ?_; rintro e w' ⟨rfl, rfl⟩))

  go_ret2
  exact ⟨by first | rfl | (simp [u8_mod, u16_mod, zpP, wpP]; try omega), by first | exact HB1.out | exact HB1.out.drew | exact below_drewN HB1.out _⟩
set_option maxHeartbeats 4000000 in
theorem raddr_5 (A : Option Addr) (c : Nat) (z : Nat → Int) (x y g : Int) (x0 : 0 ≤ x) (x1 : x ≤ 255) (y0 : 0 ≤ y) (y1 : y ≤ 255) (g0 : 0 ≤ g) (g1 : g ≤ 65535) (hc : 2 ≤ c) (w : World) (R : IRow w .u8 A 2 z) : Calls Tryd.prog 11 #[.int .u8 5, .slice A 2 c, .int .u8 x, .int .u8 y, .int .u16 g] w fun e w' => e = .returned (.tuple (#[.int .u16 (z 0 + 256 * z 1), .bool true])) ∧ Below w.heap.size w w' := by
  have hB := fun W => rmbehind_any 5 (by decide) W
  rw [show mbP 5 = 2 by decide] at hB
  obtain ⟨z00, z01⟩ := (R.bd 0 (by decide))
  obtain ⟨z10, z11⟩ := (R.bd 1 (by decide))
  obtain ⟨ad, rfl⟩ := R.ptr (by decide)
  have HR := Lib.hid R
  clear R
  go_enter Tryd.func11, Tryd.ntmps11
  go_wp2_with fail
  refine (hB _).mono ?_
  rintro e w1 ⟨rfl, hb1⟩
  have R1 := HR.out.keep hb1
  have HB1 := Lib.hid hb1
  have hc0 : w1.cell? ad = some (.int .u8 (z 0)) := R1.cellv 0 (by decide)
  have hc1 : w1.cell? ⟨ad.block, ad.off + 1, none⟩ = some (.int .u8 (z 1)) := R1.cellv 1 (by decide)
  clear hb1 R1
  go_wp2_with (first | (go_at_call 29; refine (rzero_any _ (by first | omega | (rw [u8_mod]; omega)) (by first | omega | (rw [u8_mod]; omega)) _).mono ?_; rintro e w' ⟨rfl, rfl⟩) | (go_at_call 30; refine (rword_any _ _ (by omega) (by omega) (by omega) (by omega) _).mono ?_; rintro e w' ⟨rfl, rfl⟩))
  try go_quiet (first | (go_at_call 29; refine Calls.quiet_of_same (rzero_any _ (by first | omega | (rw [u8_mod]; omega)) (by first | omega | (rw [u8_mod]; omega)) _)) | (go_at_call 30; refine Calls.quiet_of_same (rword_any _ _ (by omega) (by omega) (by omega) (by omega) _)))
  try go_wp2_with (first | (go_at_call 29; refine (rzero_any _ (by first | omega | (rw [u8_mod]; omega)) (by first | omega | (rw [u8_mod]; omega)) _).mono ?_; rintro e w' ⟨rfl, rfl⟩) | (go_at_call 30; refine (rword_any _ _ (by omega) (by omega) (by omega) (by omega) _).mono ?_; rintro e w' ⟨rfl, rfl⟩))

  go_ret2
  exact ⟨by first | rfl | (simp [u8_mod, u16_mod, zpP, wpP]; try omega), by first | exact HB1.out | exact HB1.out.drew | exact below_drewN HB1.out _⟩
set_option maxHeartbeats 4000000 in
theorem raddr_6 (A : Option Addr) (c : Nat) (z : Nat → Int) (x y g : Int) (x0 : 0 ≤ x) (x1 : x ≤ 255) (y0 : 0 ≤ y) (y1 : y ≤ 255) (g0 : 0 ≤ g) (g1 : g ≤ 65535) (hc : 2 ≤ c) (w : World) (R : IRow w .u8 A 2 z) : Calls Tryd.prog 11 #[.int .u8 6, .slice A 2 c, .int .u8 x, .int .u8 y, .int .u16 g] w fun e w' => e = .returned (.tuple (#[.int .u16 ((z 0 + 256 * z 1 + x) % 65536), .bool true])) ∧ Below w.heap.size w w' := by
  have hB := fun W => rmbehind_any 6 (by decide) W
  rw [show mbP 6 = 2 by decide] at hB
  obtain ⟨z00, z01⟩ := (R.bd 0 (by decide))
  obtain ⟨z10, z11⟩ := (R.bd 1 (by decide))
  obtain ⟨ad, rfl⟩ := R.ptr (by decide)
  have HR := Lib.hid R
  clear R
  go_enter Tryd.func11, Tryd.ntmps11
  go_wp2_with fail
  refine (hB _).mono ?_
  rintro e w1 ⟨rfl, hb1⟩
  have R1 := HR.out.keep hb1
  have HB1 := Lib.hid hb1
  have hc0 : w1.cell? ad = some (.int .u8 (z 0)) := R1.cellv 0 (by decide)
  have hc1 : w1.cell? ⟨ad.block, ad.off + 1, none⟩ = some (.int .u8 (z 1)) := R1.cellv 1 (by decide)
  clear hb1 R1
  go_wp2_with (first | (go_at_call 29; refine (rzero_any _ (by first | omega | (rw [u8_mod]; omega)) (by first | omega | (rw [u8_mod]; omega)) _).mono ?_; rintro e w' ⟨rfl, rfl⟩) | (go_at_call 30; refine (rword_any _ _ (by omega) (by omega) (by omega) (by omega) _).mono ?_; rintro e w' ⟨rfl, rfl⟩))
  try go_quiet (first | (go_at_call 29; refine Calls.quiet_of_same (rzero_any _ (by first | omega | (rw [u8_mod]; omega)) (by first | omega | (rw [u8_mod]; omega)) _)) | (go_at_call 30; refine Calls.quiet_of_same (rword_any _ _ (by omega) (by omega) (by omega) (by omega) _)))
  try go_wp2_with (first | (go_at_call 29; refine (rzero_any _ (by first | omega | (rw [u8_mod]; omega)) (by first | omega | (rw [u8_mod]; omega)) _).mono ?_; rintro e w' ⟨rfl, rfl⟩) | (go_at_call 30; refine (rword_any _ _ (by omega) (by omega) (by omega) (by omega) _).mono ?_; rintro e w' ⟨rfl, rfl⟩))

  go_ret2
  exact ⟨by first | rfl | (simp [u8_mod, u16_mod, zpP, wpP]; try omega), by first | exact HB1.out | exact HB1.out.drew | exact below_drewN HB1.out _⟩
set_option maxHeartbeats 4000000 in
theorem raddr_7 (A : Option Addr) (c : Nat) (z : Nat → Int) (x y g : Int) (x0 : 0 ≤ x) (x1 : x ≤ 255) (y0 : 0 ≤ y) (y1 : y ≤ 255) (g0 : 0 ≤ g) (g1 : g ≤ 65535) (hc : 2 ≤ c) (w : World) (R : IRow w .u8 A 2 z) : Calls Tryd.prog 11 #[.int .u8 7, .slice A 2 c, .int .u8 x, .int .u8 y, .int .u16 g] w fun e w' => e = .returned (.tuple (#[.int .u16 ((z 0 + 256 * z 1 + y) % 65536), .bool true])) ∧ Below w.heap.size w w' := by
  have hB := fun W => rmbehind_any 7 (by decide) W
  rw [show mbP 7 = 2 by decide] at hB
  obtain ⟨z00, z01⟩ := (R.bd 0 (by decide))
  obtain ⟨z10, z11⟩ := (R.bd 1 (by decide))
  obtain ⟨ad, rfl⟩ := R.ptr (by decide)
  have HR := Lib.hid R
  clear R
  go_enter Tryd.func11, Tryd.ntmps11
  go_wp2_with fail
  refine (hB _).mono ?_
  rintro e w1 ⟨rfl, hb1⟩
  have R1 := HR.out.keep hb1
  have HB1 := Lib.hid hb1
  have hc0 : w1.cell? ad = some (.int .u8 (z 0)) := R1.cellv 0 (by decide)
  have hc1 : w1.cell? ⟨ad.block, ad.off + 1, none⟩ = some (.int .u8 (z 1)) := R1.cellv 1 (by decide)
  clear hb1 R1
  go_wp2_with (first | (go_at_call 29; refine (rzero_any _ (by first | omega | (rw [u8_mod]; omega)) (by first | omega | (rw [u8_mod]; omega)) _).mono ?_; rintro e w' ⟨rfl, rfl⟩) | (go_at_call 30; refine (rword_any _ _ (by omega) (by omega) (by omega) (by omega) _).mono ?_; rintro e w' ⟨rfl, rfl⟩))
  try go_quiet (first | (go_at_call 29; refine Calls.quiet_of_same (rzero_any _ (by first | omega | (rw [u8_mod]; omega)) (by first | omega | (rw [u8_mod]; omega)) _)) | (go_at_call 30; refine Calls.quiet_of_same (rword_any _ _ (by omega) (by omega) (by omega) (by omega) _)))
  try go_wp2_with (first | (go_at_call 29; refine (rzero_any _ (by first | omega | (rw [u8_mod]; omega)) (by first | omega | (rw [u8_mod]; omega)) _).mono ?_; rintro e w' ⟨rfl, rfl⟩) | (go_at_call 30; refine (rword_any _ _ (by omega) (by omega) (by omega) (by omega) _).mono ?_; rintro e w' ⟨rfl, rfl⟩))

  go_ret2
  exact ⟨by first | rfl | (simp [u8_mod, u16_mod, zpP, wpP]; try omega), by first | exact HB1.out | exact HB1.out.drew | exact below_drewN HB1.out _⟩
set_option maxHeartbeats 4000000 in
theorem raddr_8 (A : Option Addr) (c : Nat) (z : Nat → Int) (x y g : Int) (x0 : 0 ≤ x) (x1 : x ≤ 255) (y0 : 0 ≤ y) (y1 : y ≤ 255) (g0 : 0 ≤ g) (g1 : g ≤ 65535) (hc : 1 ≤ c) (w : World) (R : IRow w .u8 A 1 z) : Calls Tryd.prog 11 #[.int .u8 8, .slice A 1 c, .int .u8 x, .int .u8 y, .int .u16 g] w fun e w' => e = .returned (.tuple (#[.int .u16 (g), .bool true])) ∧ Below w.heap.size w w' := by
  have hB := fun W => rmbehind_any 8 (by decide) W
  rw [show mbP 8 = 1 by decide] at hB
  obtain ⟨z00, z01⟩ := (R.bd 0 (by decide))
  obtain ⟨ad, rfl⟩ := R.ptr (by decide)
  have HR := Lib.hid R
  clear R
  go_enter Tryd.func11, Tryd.ntmps11
  go_wp2_with fail
  refine (hB _).mono ?_
  rintro e w1 ⟨rfl, hb1⟩
  have R1 := HR.out.keep hb1
  have HB1 := Lib.hid hb1
  clear hb1 R1
  go_wp2_with (first | (go_at_call 29; refine (rzero_any _ (by first | omega | (rw [u8_mod]; omega)) (by first | omega | (rw [u8_mod]; omega)) _).mono ?_; rintro e w' ⟨rfl, rfl⟩) | (go_at_call 30; refine (rword_any _ _ (by omega) (by omega) (by omega) (by omega) _).mono ?_; rintro e w' ⟨rfl, rfl⟩))
  try go_quiet (first | (go_at_call 29; refine Calls.quiet_of_same (rzero_any _ (by first | omega | (rw [u8_mod]; omega)) (by first | omega | (rw [u8_mod]; omega)) _)) | (go_at_call 30; refine Calls.quiet_of_same (rword_any _ _ (by omega) (by omega) (by omega) (by omega) _)))
  try go_wp2_with (first | (go_at_call 29; refine (rzero_any _ (by first | omega | (rw [u8_mod]; omega)) (by first | omega | (rw [u8_mod]; omega)) _).mono ?_; rintro e w' ⟨rfl, rfl⟩) | (go_at_call 30; refine (rword_any _ _ (by omega) (by omega) (by omega) (by omega) _).mono ?_; rintro e w' ⟨rfl, rfl⟩))

  go_ret2
  exact ⟨by first | rfl | (simp [u8_mod, u16_mod, zpP, wpP]; try omega), by first | exact HB1.out | exact HB1.out.drew | exact below_drewN HB1.out _⟩
set_option maxHeartbeats 4000000 in
theorem raddr_9 (A : Option Addr) (c : Nat) (z : Nat → Int) (x y g : Int) (x0 : 0 ≤ x) (x1 : x ≤ 255) (y0 : 0 ≤ y) (y1 : y ≤ 255) (g0 : 0 ≤ g) (g1 : g ≤ 65535) (hc : 1 ≤ c) (w : World) (R : IRow w .u8 A 1 z) : Calls Tryd.prog 11 #[.int .u8 9, .slice A 1 c, .int .u8 x, .int .u8 y, .int .u16 g] w fun e w' => e = .returned (.tuple (#[.int .u16 (g), .bool true])) ∧ Below w.heap.size w w' := by
  have hB := fun W => rmbehind_any 9 (by decide) W
  rw [show mbP 9 = 1 by decide] at hB
  obtain ⟨z00, z01⟩ := (R.bd 0 (by decide))
  obtain ⟨ad, rfl⟩ := R.ptr (by decide)
  have HR := Lib.hid R
  clear R
  go_enter Tryd.func11, Tryd.ntmps11
  go_wp2_with fail
  refine (hB _).mono ?_
  rintro e w1 ⟨rfl, hb1⟩
  have R1 := HR.out.keep hb1
  have HB1 := Lib.hid hb1
  clear hb1 R1
  go_wp2_with (first | (go_at_call 29; refine (rzero_any _ (by first | omega | (rw [u8_mod]; omega)) (by first | omega | (rw [u8_mod]; omega)) _).mono ?_; rintro e w' ⟨rfl, rfl⟩) | (go_at_call 30; refine (rword_any _ _ (by omega) (by omega) (by omega) (by omega) _).mono ?_; rintro e w' ⟨rfl, rfl⟩))
  try go_quiet (first | (go_at_call 29; refine Calls.quiet_of_same (rzero_any _ (by first | omega | (rw [u8_mod]; omega)) (by first | omega | (rw [u8_mod]; omega)) _)) | (go_at_call 30; refine Calls.quiet_of_same (rword_any _ _ (by omega) (by omega) (by omega) (by omega) _)))
  try go_wp2_with (first | (go_at_call 29; refine (rzero_any _ (by first | omega | (rw [u8_mod]; omega)) (by first | omega | (rw [u8_mod]; omega)) _).mono ?_; rintro e w' ⟨rfl, rfl⟩) | (go_at_call 30; refine (rword_any _ _ (by omega) (by omega) (by omega) (by omega) _).mono ?_; rintro e w' ⟨rfl, rfl⟩))

  go_ret2
  exact ⟨by first | rfl | (simp [u8_mod, u16_mod, zpP, wpP]; try omega), by first | exact HB1.out | exact HB1.out.drew | exact below_drewN HB1.out _⟩
set_option maxHeartbeats 4000000 in
theorem raddr_17 (A : Option Addr) (c : Nat) (z : Nat → Int) (x y g : Int) (x0 : 0 ≤ x) (x1 : x ≤ 255) (y0 : 0 ≤ y) (y1 : y ≤ 255) (g0 : 0 ≤ g) (g1 : g ≤ 65535) (hc : 2 ≤ c) (w : World) (R : IRow w .u8 A 2 z) : Calls Tryd.prog 11 #[.int .u8 17, .slice A 2 c, .int .u8 x, .int .u8 y, .int .u16 g] w fun e w' => e = .returned (.tuple (#[.int .u16 (g), .bool true])) ∧ Below w.heap.size w w' := by
  have hB := fun W => rmbehind_any 17 (by decide) W
  rw [show mbP 17 = 2 by decide] at hB
  obtain ⟨z00, z01⟩ := (R.bd 0 (by decide))
  obtain ⟨z10, z11⟩ := (R.bd 1 (by decide))
  obtain ⟨ad, rfl⟩ := R.ptr (by decide)
  have HR := Lib.hid R
  clear R
  go_enter Tryd.func11, Tryd.ntmps11
  go_wp2_with fail
  refine (hB _).mono ?_
  rintro e w1 ⟨rfl, hb1⟩
  have R1 := HR.out.keep hb1
  have HB1 := Lib.hid hb1
  clear hb1 R1
  go_wp2_with (first | (go_at_call 29; refine (rzero_any _ (by first | omega | (rw [u8_mod]; omega)) (by first | omega | (rw [u8_mod]; omega)) _).mono ?_; rintro e w' ⟨rfl, rfl⟩) | (go_at_call 30; refine (rword_any _ _ (by omega) (by omega) (by omega) (by omega) _).mono ?_; rintro e w' ⟨rfl, rfl⟩))
  try go_quiet (first | (go_at_call 29; refine Calls.quiet_of_same (rzero_any _ (by first | omega | (rw [u8_mod]; omega)) (by first | omega | (rw [u8_mod]; omega)) _)) | (go_at_call 30; refine Calls.quiet_of_same (rword_any _ _ (by omega) (by omega) (by omega) (by omega) _)))
  try go_wp2_with (first | (go_at_call 29; refine (rzero_any _ (by first | omega | (rw [u8_mod]; omega)) (by first | omega | (rw [u8_mod]; omega)) _).mono ?_; rintro e w' ⟨rfl, rfl⟩) | (go_at_call 30; refine (rword_any _ _ (by omega) (by omega) (by omega) (by omega) _).mono ?_; rintro e w' ⟨rfl, rfl⟩))

  go_ret2
  exact ⟨by first | rfl | (simp [u8_mod, u16_mod, zpP, wpP]; try omega), by first | exact HB1.out | exact HB1.out.drew | exact below_drewN HB1.out _⟩
set_option maxHeartbeats 4000000 in
theorem raddr_18 (A : Option Addr) (c : Nat) (z : Nat → Int) (x y g : Int) (x0 : 0 ≤ x) (x1 : x ≤ 255) (y0 : 0 ≤ y) (y1 : y ≤ 255) (g0 : 0 ≤ g) (g1 : g ≤ 65535) (hc : 2 ≤ c) (w : World) (R : IRow w .u8 A 2 z) : Calls Tryd.prog 11 #[.int .u8 18, .slice A 2 c, .int .u8 x, .int .u8 y, .int .u16 g] w fun e w' => e = .returned (.tuple (#[.int .u16 (g), .bool true])) ∧ Below w.heap.size w w' := by
  have hB := fun W => rmbehind_any 18 (by decide) W
  rw [show mbP 18 = 2 by decide] at hB
  obtain ⟨z00, z01⟩ := (R.bd 0 (by decide))
  obtain ⟨z10, z11⟩ := (R.bd 1 (by decide))
  obtain ⟨ad, rfl⟩ := R.ptr (by decide)
  have HR := Lib.hid R
  clear R
  go_enter Tryd.func11, Tryd.ntmps11
  go_wp2_with fail
  refine (hB _).mono ?_
  rintro e w1 ⟨rfl, hb1⟩
  have R1 := HR.out.keep hb1
  have HB1 := Lib.hid hb1
  clear hb1 R1
  go_wp2_with (first | (go_at_call 29; refine (rzero_any _ (by first | omega | (rw [u8_mod]; omega)) (by first | omega | (rw [u8_mod]; omega)) _).mono ?_; rintro e w' ⟨rfl, rfl⟩) | (go_at_call 30; refine (rword_any _ _ (by omega) (by omega) (by omega) (by omega) _).mono ?_; rintro e w' ⟨rfl, rfl⟩))
  try go_quiet (first | (go_at_call 29; refine Calls.quiet_of_same (rzero_any _ (by first | omega | (rw [u8_mod]; omega)) (by first | omega | (rw [u8_mod]; omega)) _)) | (go_at_call 30; refine Calls.quiet_of_same (rword_any _ _ (by omega) (by omega) (by omega) (by omega) _)))
  try go_wp2_with (first | (go_at_call 29; refine (rzero_any _ (by first | omega | (rw [u8_mod]; omega)) (by first | omega | (rw [u8_mod]; omega)) _).mono ?_; rintro e w' ⟨rfl, rfl⟩) | (go_at_call 30; refine (rword_any _ _ (by omega) (by omega) (by omega) (by omega) _).mono ?_; rintro e w' ⟨rfl, rfl⟩))

  go_ret2
  exact ⟨by first | rfl | (simp [u8_mod, u16_mod, zpP, wpP]; try omega), by first | exact HB1.out | exact HB1.out.drew | exact below_drewN HB1.out _⟩
set_option maxHeartbeats 4000000 in
theorem raddr_10 (A : Option Addr) (c : Nat) (z : Nat → Int) (x y g : Int) (x0 : 0 ≤ x) (x1 : x ≤ 255) (y0 : 0 ≤ y) (y1 : y ≤ 255) (g0 : 0 ≤ g) (g1 : g ≤ 65535) (hc : 1 ≤ c) (w : World) (R : IRow w .u8 A 1 z) : Calls Tryd.prog 11 #[.int .u8 10, .slice A 1 c, .int .u8 x, .int .u8 y, .int .u16 g] w fun e w' => e = .returned (.tuple (#[.int .u16 ((g + y) % 65536), .bool true])) ∧ Below w.heap.size w w' := by
  have hB := fun W => rmbehind_any 10 (by decide) W
  rw [show mbP 10 = 1 by decide] at hB
  obtain ⟨z00, z01⟩ := (R.bd 0 (by decide))
  obtain ⟨ad, rfl⟩ := R.ptr (by decide)
  have HR := Lib.hid R
  clear R
  go_enter Tryd.func11, Tryd.ntmps11
  go_wp2_with fail
  refine (hB _).mono ?_
  rintro e w1 ⟨rfl, hb1⟩
  have R1 := HR.out.keep hb1
  have HB1 := Lib.hid hb1
  clear hb1 R1
  go_wp2_with (first | (go_at_call 29; refine (rzero_any _ (by first | omega | (rw [u8_mod]; omega)) (by first | omega | (rw [u8_mod]; omega)) _).mono ?_; rintro e w' ⟨rfl, rfl⟩) | (go_at_call 30; refine (rword_any _ _ (by omega) (by omega) (by omega) (by omega) _).mono ?_; rintro e w' ⟨rfl, rfl⟩))
  try go_quiet (first | (go_at_call 29; refine Calls.quiet_of_same (rzero_any _ (by first | omega | (rw [u8_mod]; omega)) (by first | omega | (rw [u8_mod]; omega)) _)) | (go_at_call 30; refine Calls.quiet_of_same (rword_any _ _ (by omega) (by omega) (by omega) (by omega) _)))
  try go_wp2_with (first | (go_at_call 29; refine (rzero_any _ (by first | omega | (rw [u8_mod]; omega)) (by first | omega | (rw [u8_mod]; omega)) _).mono ?_; rintro e w' ⟨rfl, rfl⟩) | (go_at_call 30; refine (rword_any _ _ (by omega) (by omega) (by omega) (by omega) _).mono ?_; rintro e w' ⟨rfl, rfl⟩))

  go_ret2
  exact ⟨by first | rfl | (simp [u8_mod, u16_mod, zpP, wpP]; try omega), by first | exact HB1.out | exact HB1.out.drew | exact below_drewN HB1.out _⟩
set_option maxHeartbeats 4000000 in
theorem raddr_13 (A : Option Addr) (c : Nat) (z : Nat → Int) (x y g : Int) (x0 : 0 ≤ x) (x1 : x ≤ 255) (y0 : 0 ≤ y) (y1 : y ≤ 255) (g0 : 0 ≤ g) (g1 : g ≤ 65535) (hc : 2 ≤ c) (w : World) (R : IRow w .u8 A 2 z) : Calls Tryd.prog 11 #[.int .u8 13, .slice A 2 c, .int .u8 x, .int .u8 y, .int .u16 g] w fun e w' => e = .returned (.tuple (#[.int .u16 (8192 + z 1), .bool true])) ∧ Below w.heap.size w w' := by
  have hB := fun W => rmbehind_any 13 (by decide) W
  rw [show mbP 13 = 2 by decide] at hB
  obtain ⟨z00, z01⟩ := (R.bd 0 (by decide))
  obtain ⟨z10, z11⟩ := (R.bd 1 (by decide))
  obtain ⟨ad, rfl⟩ := R.ptr (by decide)
  have HR := Lib.hid R
  clear R
  go_enter Tryd.func11, Tryd.ntmps11
  go_wp2_with fail
  refine (hB _).mono ?_
  rintro e w1 ⟨rfl, hb1⟩
  have R1 := HR.out.keep hb1
  have HB1 := Lib.hid hb1
  have hc1 : w1.cell? ⟨ad.block, ad.off + 1, none⟩ = some (.int .u8 (z 1)) := R1.cellv 1 (by decide)
  clear hb1 R1
  go_wp2_with (first | (go_at_call 29; refine (rzero_any _ (by first | omega | (rw [u8_mod]; omega)) (by first | omega | (rw [u8_mod]; omega)) _).mono ?_; rintro e w' ⟨rfl, rfl⟩) | (go_at_call 30; refine (rword_any _ _ (by omega) (by omega) (by omega) (by omega) _).mono ?_; rintro e w' ⟨rfl, rfl⟩))
  try go_quiet (first | (go_at_call 29; refine Calls.quiet_of_same (rzero_any _ (by first | omega | (rw [u8_mod]; omega)) (by first | omega | (rw [u8_mod]; omega)) _)) | (go_at_call 30; refine Calls.quiet_of_same (rword_any _ _ (by omega) (by omega) (by omega) (by omega) _)))
  try go_wp2_with (first | (go_at_call 29; refine (rzero_any _ (by first | omega | (rw [u8_mod]; omega)) (by first | omega | (rw [u8_mod]; omega)) _).mono ?_; rintro e w' ⟨rfl, rfl⟩) | (go_at_call 30; refine (rword_any _ _ (by omega) (by omega) (by omega) (by omega) _).mono ?_; rintro e w' ⟨rfl, rfl⟩))

  go_ret2
  exact ⟨by first | rfl | (simp [u8_mod, u16_mod, zpP, wpP]; try omega), by first | exact HB1.out | exact HB1.out.drew | exact below_drewN HB1.out _⟩
set_option maxHeartbeats 4000000 in
theorem raddr_14 (A : Option Addr) (c : Nat) (z : Nat → Int) (x y g : Int) (x0 : 0 ≤ x) (x1 : x ≤ 255) (y0 : 0 ≤ y) (y1 : y ≤ 255) (g0 : 0 ≤ g) (g1 : g ≤ 65535) (hc : 2 ≤ c) (w : World) (R : IRow w .u8 A 2 z) : Calls Tryd.prog 11 #[.int .u8 14, .slice A 2 c, .int .u8 x, .int .u8 y, .int .u16 g] w fun e w' => e = .returned (.tuple (#[.int .u16 (8192 + (z 1 + x) % 256), .bool true])) ∧ Below w.heap.size w w' := by
  have hB := fun W => rmbehind_any 14 (by decide) W
  rw [show mbP 14 = 2 by decide] at hB
  obtain ⟨z00, z01⟩ := (R.bd 0 (by decide))
  obtain ⟨z10, z11⟩ := (R.bd 1 (by decide))
  obtain ⟨ad, rfl⟩ := R.ptr (by decide)
  have HR := Lib.hid R
  clear R
  go_enter Tryd.func11, Tryd.ntmps11
  go_wp2_with fail
  refine (hB _).mono ?_
  rintro e w1 ⟨rfl, hb1⟩
  have R1 := HR.out.keep hb1
  have HB1 := Lib.hid hb1
  have hc1 : w1.cell? ⟨ad.block, ad.off + 1, none⟩ = some (.int .u8 (z 1)) := R1.cellv 1 (by decide)
  clear hb1 R1
  go_wp2_with (first | (go_at_call 29; refine (rzero_any _ (by first | omega | (rw [u8_mod]; omega)) (by first | omega | (rw [u8_mod]; omega)) _).mono ?_; rintro e w' ⟨rfl, rfl⟩) | (go_at_call 30; refine (rword_any _ _ (by omega) (by omega) (by omega) (by omega) _).mono ?_; rintro e w' ⟨rfl, rfl⟩))
  try go_quiet (first | (go_at_call 29; refine Calls.quiet_of_same (rzero_any _ (by first | omega | (rw [u8_mod]; omega)) (by first | omega | (rw [u8_mod]; omega)) _)) | (go_at_call 30; refine Calls.quiet_of_same (rword_any _ _ (by omega) (by omega) (by omega) (by omega) _)))
  try go_wp2_with (first | (go_at_call 29; refine (rzero_any _ (by first | omega | (rw [u8_mod]; omega)) (by first | omega | (rw [u8_mod]; omega)) _).mono ?_; rintro e w' ⟨rfl, rfl⟩) | (go_at_call 30; refine (rword_any _ _ (by omega) (by omega) (by omega) (by omega) _).mono ?_; rintro e w' ⟨rfl, rfl⟩))

  go_ret2
  exact ⟨by first | rfl | (simp [u8_mod, u16_mod, zpP, wpP]; try omega), by first | exact HB1.out | exact HB1.out.drew | exact below_drewN HB1.out _⟩
set_option maxHeartbeats 4000000 in
theorem raddr_15 (A : Option Addr) (c : Nat) (z : Nat → Int) (x y g : Int) (x0 : 0 ≤ x) (x1 : x ≤ 255) (y0 : 0 ≤ y) (y1 : y ≤ 255) (g0 : 0 ≤ g) (g1 : g ≤ 65535) (hc : 3 ≤ c) (w : World) (R : IRow w .u8 A 3 z) : Calls Tryd.prog 11 #[.int .u8 15, .slice A 3 c, .int .u8 x, .int .u8 y, .int .u16 g] w fun e w' => e = .returned (.tuple (#[.int .u16 (z 1 + 256 * z 2), .bool true])) ∧ Below w.heap.size w w' := by
  have hB := fun W => rmbehind_any 15 (by decide) W
  rw [show mbP 15 = 3 by decide] at hB
  obtain ⟨z00, z01⟩ := (R.bd 0 (by decide))
  obtain ⟨z10, z11⟩ := (R.bd 1 (by decide))
  obtain ⟨z20, z21⟩ := (R.bd 2 (by decide))
  obtain ⟨ad, rfl⟩ := R.ptr (by decide)
  have HR := Lib.hid R
  clear R
  go_enter Tryd.func11, Tryd.ntmps11
  go_wp2_with fail
  refine (hB _).mono ?_
  rintro e w1 ⟨rfl, hb1⟩
  have R1 := HR.out.keep hb1
  have HB1 := Lib.hid hb1
  have hc1 : w1.cell? ⟨ad.block, ad.off + 1, none⟩ = some (.int .u8 (z 1)) := R1.cellv 1 (by decide)
  have hc2 : w1.cell? ⟨ad.block, ad.off + 2, none⟩ = some (.int .u8 (z 2)) := R1.cellv 2 (by decide)
  clear hb1 R1
  go_wp2_with (first | (go_at_call 29; refine (rzero_any _ (by first | omega | (rw [u8_mod]; omega)) (by first | omega | (rw [u8_mod]; omega)) _).mono ?_; rintro e w' ⟨rfl, rfl⟩) | (go_at_call 30; refine (rword_any _ _ (by omega) (by omega) (by omega) (by omega) _).mono ?_; rintro e w' ⟨rfl, rfl⟩))
  try go_quiet (first | (go_at_call 29; refine Calls.quiet_of_same (rzero_any _ (by first | omega | (rw [u8_mod]; omega)) (by first | omega | (rw [u8_mod]; omega)) _)) | (go_at_call 30; refine Calls.quiet_of_same (rword_any _ _ (by omega) (by omega) (by omega) (by omega) _)))
  try go_wp2_with (first | (go_at_call 29; refine (rzero_any _ (by first | omega | (rw [u8_mod]; omega)) (by first | omega | (rw [u8_mod]; omega)) _).mono ?_; rintro e w' ⟨rfl, rfl⟩) | (go_at_call 30; refine (rword_any _ _ (by omega) (by omega) (by omega) (by omega) _).mono ?_; rintro e w' ⟨rfl, rfl⟩))

  go_ret2
  exact ⟨by first | rfl | (simp [u8_mod, u16_mod, zpP, wpP]; try omega), by first | exact HB1.out | exact HB1.out.drew | exact below_drewN HB1.out _⟩
set_option maxHeartbeats 4000000 in
theorem raddr_16 (A : Option Addr) (c : Nat) (z : Nat → Int) (x y g : Int) (x0 : 0 ≤ x) (x1 : x ≤ 255) (y0 : 0 ≤ y) (y1 : y ≤ 255) (g0 : 0 ≤ g) (g1 : g ≤ 65535) (hc : 3 ≤ c) (w : World) (R : IRow w .u8 A 3 z) : Calls Tryd.prog 11 #[.int .u8 16, .slice A 3 c, .int .u8 x, .int .u8 y, .int .u16 g] w fun e w' => e = .returned (.tuple (#[.int .u16 ((z 1 + 256 * z 2 + x) % 65536), .bool true])) ∧ Below w.heap.size w w' := by
  have hB := fun W => rmbehind_any 16 (by decide) W
  rw [show mbP 16 = 3 by decide] at hB
  obtain ⟨z00, z01⟩ := (R.bd 0 (by decide))
  obtain ⟨z10, z11⟩ := (R.bd 1 (by decide))
  obtain ⟨z20, z21⟩ := (R.bd 2 (by decide))
  obtain ⟨ad, rfl⟩ := R.ptr (by decide)
  have HR := Lib.hid R
  clear R
  go_enter Tryd.func11, Tryd.ntmps11
  go_wp2_with fail
  refine (hB _).mono ?_
  rintro e w1 ⟨rfl, hb1⟩
  have R1 := HR.out.keep hb1
  have HB1 := Lib.hid hb1
  have hc1 : w1.cell? ⟨ad.block, ad.off + 1, none⟩ = some (.int .u8 (z 1)) := R1.cellv 1 (by decide)
  have hc2 : w1.cell? ⟨ad.block, ad.off + 2, none⟩ = some (.int .u8 (z 2)) := R1.cellv 2 (by decide)
  clear hb1 R1
  go_wp2_with (first | (go_at_call 29; refine (rzero_any _ (by first | omega | (rw [u8_mod]; omega)) (by first | omega | (rw [u8_mod]; omega)) _).mono ?_; rintro e w' ⟨rfl, rfl⟩) | (go_at_call 30; refine (rword_any _ _ (by omega) (by omega) (by omega) (by omega) _).mono ?_; rintro e w' ⟨rfl, rfl⟩))
  try go_quiet (first | (go_at_call 29; refine Calls.quiet_of_same (rzero_any _ (by first | omega | (rw [u8_mod]; omega)) (by first | omega | (rw [u8_mod]; omega)) _)) | (go_at_call 30; refine Calls.quiet_of_same (rword_any _ _ (by omega) (by omega) (by omega) (by omega) _)))
  try go_wp2_with (first | (go_at_call 29; refine (rzero_any _ (by first | omega | (rw [u8_mod]; omega)) (by first | omega | (rw [u8_mod]; omega)) _).mono ?_; rintro e w' ⟨rfl, rfl⟩) | (go_at_call 30; refine (rword_any _ _ (by omega) (by omega) (by omega) (by omega) _).mono ?_; rintro e w' ⟨rfl, rfl⟩))

  go_ret2
  exact ⟨by first | rfl | (simp [u8_mod, u16_mod, zpP, wpP]; try omega), by first | exact HB1.out | exact HB1.out.drew | exact below_drewN HB1.out _⟩
end Go.Proofs.YtdhnnegigjjoeaaDoor
namespace Go.Proofs.YtdhnnegigjjoeaaDoor
open Go.RowKit
set_option linter.unusedVariables false
set_option linter.unusedSimpArgs false
set_option maxRecDepth 100000
set_option maxHeartbeats 4000000 in
theorem rptr_len (m : Nat) (hm : m < 256) (A : Option Addr) (n c : Nat) (x : Int) (hn : (n : Int) ≠ mbP m) (w : World) : Calls Tryd.prog 9 #[.int .u8 (m : Int), .slice A n c, .int .u8 x] w fun e w' => e = .returned (.tuple #[.int .u16 0, .int .u16 0, .bool false]) ∧ Below w.heap.size w w' := by
  have hB := fun W => rmbehind_any m hm W
  obtain ⟨q, hq⟩ : ∃ q, mbP m = q := ⟨_, rfl⟩
  rw [hq] at hB hn
  clear hq
  go_enter Tryd.func9, Tryd.ntmps9
  go_wp2_with fail
  refine (hB _).mono ?_
  rintro e w1 ⟨rfl, hb1⟩
  have HB1 := Lib.hid hb1
  clear hb1
  go_wp2
  go_ret3
  exact ⟨rfl, HB1.out⟩
set_option maxHeartbeats 4000000 in
theorem raddr_len (m : Nat) (hm : m < 256) (A : Option Addr) (n c : Nat) (x y g : Int) (hn : (n : Int) ≠ mbP m) (w : World) : Calls Tryd.prog 11 #[.int .u8 (m : Int), .slice A n c, .int .u8 x, .int .u8 y, .int .u16 g] w fun e w' => e = .returned (.tuple #[.int .u16 0, .bool false]) ∧ Below w.heap.size w w' := by
  have hB := fun W => rmbehind_any m hm W
  obtain ⟨q, hq⟩ : ∃ q, mbP m = q := ⟨_, rfl⟩
  rw [hq] at hB hn
  clear hq
  go_enter Tryd.func11, Tryd.ntmps11
  go_wp2_with fail
  refine (hB _).mono ?_
  rintro e w1 ⟨rfl, hb1⟩
  have HB1 := Lib.hid hb1
  clear hb1
  go_wp2
  go_ret2
  exact ⟨rfl, HB1.out⟩
set_option maxHeartbeats 4000000 in
theorem rptr_no (m : Nat) (hm : m < 256) (A : Option Addr) (n c : Nat) (x : Int) (hm2 : m < 8 ∨ (10 < m ∧ m < 17) ∨ 18 < m) (hn : (n : Int) = mbP m) (w : World) : Calls Tryd.prog 9 #[.int .u8 (m : Int), .slice A n c, .int .u8 x] w fun e w' => e = .returned (.tuple #[.int .u16 0, .int .u16 0, .bool false]) ∧ Below w.heap.size w w' := by
  have hB := fun W => rmbehind_any m hm W
  rw [← hn] at hB
  have h8 : (m : Int) ≠ 8 := by omega
  have h9 : (m : Int) ≠ 9 := by omega
  have h10 : (m : Int) ≠ 10 := by omega
  have h17 : (m : Int) ≠ 17 := by omega
  have h18 : (m : Int) ≠ 18 := by omega
  clear hn hm2
  go_enter Tryd.func9, Tryd.ntmps9
  go_wp2_with fail
  refine (hB _).mono ?_
  rintro e w1 ⟨rfl, hb1⟩
  have HB1 := Lib.hid hb1
  clear hb1
  go_wp2
  go_ret3
  exact ⟨rfl, HB1.out⟩
set_option maxHeartbeats 4000000 in
theorem raddr_no (m : Nat) (hm : m < 256) (A : Option Addr) (n c : Nat) (x y g : Int) (hm2 : m < 2 ∨ m = 11 ∨ 18 < m) (hn : (n : Int) = mbP m) (w : World) : Calls Tryd.prog 11 #[.int .u8 (m : Int), .slice A n c, .int .u8 x, .int .u8 y, .int .u16 g] w fun e w' => e = .returned (.tuple #[.int .u16 0, .bool false]) ∧ Below w.heap.size w w' := by
  have hB := fun W => rmbehind_any m hm W
  rw [← hn] at hB
  have k2 : (m : Int) ≠ 2 := by omega
  have k3 : (m : Int) ≠ 3 := by omega
  have k4 : (m : Int) ≠ 4 := by omega
  have k5 : (m : Int) ≠ 5 := by omega
  have k6 : (m : Int) ≠ 6 := by omega
  have k7 : (m : Int) ≠ 7 := by omega
  have k8 : (m : Int) ≠ 8 := by omega
  have k9 : (m : Int) ≠ 9 := by omega
  have k10 : (m : Int) ≠ 10 := by omega
  have k12 : (m : Int) ≠ 12 := by omega
  have k13 : (m : Int) ≠ 13 := by omega
  have k14 : (m : Int) ≠ 14 := by omega
  have k15 : (m : Int) ≠ 15 := by omega
  have k16 : (m : Int) ≠ 16 := by omega
  have k17 : (m : Int) ≠ 17 := by omega
  have k18 : (m : Int) ≠ 18 := by omega
  clear hn hm2
  go_enter Tryd.func11, Tryd.ntmps11
  go_wp2_with fail
  refine (hB _).mono ?_
  rintro e w1 ⟨rfl, hb1⟩
  have HB1 := Lib.hid hb1
  clear hb1
  go_wp2
  go_ret2
  exact ⟨rfl, HB1.out⟩

set_option maxHeartbeats 4000000 in
theorem rptr_any (m : Nat) (hm : m < 256) (A : Option Addr) (n c : Nat) (hnc : n ≤ c) (z : Nat → Int) (x : Int) (x0 : 0 ≤ x) (x1 : x ≤ 255) (w : World) (R : IRow w .u8 A n z) : Calls Tryd.prog 9 #[.int .u8 (m : Int), .slice A n c, .int .u8 x] w fun e w' => e = .returned (.tuple (ptrP m n z x)) ∧ Below w.heap.size w w' := by
  unfold ptrP
  by_cases hn : (n : Int) = mbP m
  · rcases modes_of m with rfl | rfl | rfl | rfl | rfl | rfl | rfl | rfl | rfl | rfl | rfl | rfl | rfl | rfl | rfl | rfl | rfl | rfl | rfl | rfl | h
    · rw [if_neg (by omega), if_neg (by omega), if_neg (by omega), if_neg (by omega)]
      exact rptr_no 0 hm A n c x (by omega) hn w
    · rw [if_neg (by omega), if_neg (by omega), if_neg (by omega), if_neg (by omega)]
      exact rptr_no 1 hm A n c x (by omega) hn w
    · rw [if_neg (by omega), if_neg (by omega), if_neg (by omega), if_neg (by omega)]
      exact rptr_no 2 hm A n c x (by omega) hn w
    · rw [if_neg (by omega), if_neg (by omega), if_neg (by omega), if_neg (by omega)]
      exact rptr_no 3 hm A n c x (by omega) hn w
    · rw [if_neg (by omega), if_neg (by omega), if_neg (by omega), if_neg (by omega)]
      exact rptr_no 4 hm A n c x (by omega) hn w
    · rw [if_neg (by omega), if_neg (by omega), if_neg (by omega), if_neg (by omega)]
      exact rptr_no 5 hm A n c x (by omega) hn w
    · rw [if_neg (by omega), if_neg (by omega), if_neg (by omega), if_neg (by omega)]
      exact rptr_no 6 hm A n c x (by omega) hn w
    · rw [if_neg (by omega), if_neg (by omega), if_neg (by omega), if_neg (by omega)]
      exact rptr_no 7 hm A n c x (by omega) hn w
    · obtain rfl : n = 1 := by
        have h : mbP 8 = 1 := by decide
        omega
      rw [if_neg (by omega), if_pos ⟨hn, by omega⟩]
      rw [show (((8 : Nat)) : Int) = 8 from rfl]
      exact rptr_8 A c z x x0 x1 hnc w R
    · obtain rfl : n = 1 := by
        have h : mbP 9 = 1 := by decide
        omega
      rw [if_pos ⟨hn, by omega⟩]
      rw [show (((9 : Nat)) : Int) = 9 from rfl]
      exact rptr_9 A c z x x0 x1 hnc w R
    · obtain rfl : n = 1 := by
        have h : mbP 10 = 1 := by decide
        omega
      rw [if_neg (by omega), if_pos ⟨hn, by omega⟩]
      rw [show (((10 : Nat)) : Int) = 10 from rfl]
      exact rptr_10 A c z x x0 x1 hnc w R
    · rw [if_neg (by omega), if_neg (by omega), if_neg (by omega), if_neg (by omega)]
      exact rptr_no 11 hm A n c x (by omega) hn w
    · rw [if_neg (by omega), if_neg (by omega), if_neg (by omega), if_neg (by omega)]
      exact rptr_no 12 hm A n c x (by omega) hn w
    · rw [if_neg (by omega), if_neg (by omega), if_neg (by omega), if_neg (by omega)]
      exact rptr_no 13 hm A n c x (by omega) hn w
    · rw [if_neg (by omega), if_neg (by omega), if_neg (by omega), if_neg (by omega)]
      exact rptr_no 14 hm A n c x (by omega) hn w
    · rw [if_neg (by omega), if_neg (by omega), if_neg (by omega), if_neg (by omega)]
      exact rptr_no 15 hm A n c x (by omega) hn w
    · rw [if_neg (by omega), if_neg (by omega), if_neg (by omega), if_neg (by omega)]
      exact rptr_no 16 hm A n c x (by omega) hn w
    · obtain rfl : n = 2 := by
        have h : mbP 17 = 2 := by decide
        omega
      rw [if_neg (by omega), if_neg (by omega), if_neg (by omega), if_pos ⟨hn, by omega⟩]
      rw [show (((17 : Nat)) : Int) = 17 from rfl]
      exact rptr_17 A c z x x0 x1 hnc w R
    · obtain rfl : n = 2 := by
        have h : mbP 18 = 2 := by decide
        omega
      rw [if_neg (by omega), if_neg (by omega), if_pos ⟨hn, by omega⟩]
      rw [show (((18 : Nat)) : Int) = 18 from rfl]
      exact rptr_18 A c z x x0 x1 hnc w R
    · rw [if_neg (by omega), if_neg (by omega), if_neg (by omega), if_neg (by omega)]
      exact rptr_no 19 hm A n c x (by omega) hn w
    · rw [if_neg (by omega), if_neg (by omega), if_neg (by omega), if_neg (by omega)]
      exact rptr_no m hm A n c x (by omega) hn w
  · rw [if_neg (by omega), if_neg (by omega), if_neg (by omega), if_neg (by omega)]
    exact rptr_len m hm A n c x hn w
/-- The two values that both sides answer of an address. -/
def addP (m n : Nat) (z : Nat → Int) (x y g : Int) : Array Value :=
  if (n : Int) = mbP m then
    (match m with
    | 2 | 12 => #[.int .u16 (8192 + z 0), .bool true]
    | 3 => #[.int .u16 (8192 + (z 0 + x) % 256), .bool true]
    | 4 => #[.int .u16 (8192 + (z 0 + y) % 256), .bool true]
    | 5 => #[.int .u16 (z 0 + 256 * z 1), .bool true]
    | 6 => #[.int .u16 ((z 0 + 256 * z 1 + x) % 65536), .bool true]
    | 7 => #[.int .u16 ((z 0 + 256 * z 1 + y) % 65536), .bool true]
    | 8 | 9 | 17 | 18 => #[.int .u16 g, .bool true]
    | 10 => #[.int .u16 ((g + y) % 65536), .bool true]
    | 13 => #[.int .u16 (8192 + z 1), .bool true]
    | 14 => #[.int .u16 (8192 + (z 1 + x) % 256), .bool true]
    | 15 => #[.int .u16 (z 1 + 256 * z 2), .bool true]
    | 16 => #[.int .u16 ((z 1 + 256 * z 2 + x) % 65536), .bool true]
    | _ => #[.int .u16 0, .bool false])
  else #[.int .u16 0, .bool false]
theorem same_any {f : Nat} {args : Array Value} {w : World} {v : Value} (h : Calls Tryd.prog f args w fun e w' => e = .returned v ∧ w = w') : Calls Tryd.prog f args w fun e w' => e = .returned v ∧ Below w.heap.size w w' :=
  h.mono fun e w' ⟨h1, h2⟩ => ⟨h1, h2 ▸ Below.refl _ _⟩
theorem addP_hi (m n : Nat) (z : Nat → Int) (x y g : Int) (h : 20 ≤ m) : addP m n z x y g = #[.int .u16 0, .bool false] := by
  unfold addP
  split
  · split <;> first | rfl | omega
  · rfl
set_option maxHeartbeats 4000000 in
theorem raddr_any (m : Nat) (hm : m < 256) (A : Option Addr) (n c : Nat) (hnc : n ≤ c) (z : Nat → Int) (x y g : Int) (x0 : 0 ≤ x) (x1 : x ≤ 255) (y0 : 0 ≤ y) (y1 : y ≤ 255) (g0 : 0 ≤ g) (g1 : g ≤ 65535) (w : World) (R : IRow w .u8 A n z) : Calls Tryd.prog 11 #[.int .u8 (m : Int), .slice A n c, .int .u8 x, .int .u8 y, .int .u16 g] w fun e w' => e = .returned (.tuple (addP m n z x y g)) ∧ Below w.heap.size w w' := by
  by_cases hn : (n : Int) = mbP m
  · rcases modes_of m with rfl | rfl | rfl | rfl | rfl | rfl | rfl | rfl | rfl | rfl | rfl | rfl | rfl | rfl | rfl | rfl | rfl | rfl | rfl | rfl | h
    · unfold addP
      rw [if_pos hn]
      exact raddr_no 0 hm A n c x y g (by omega) hn w
    · unfold addP
      rw [if_pos hn]
      exact raddr_no 1 hm A n c x y g (by omega) hn w
    · obtain rfl : n = 1 := by
        have h : mbP 2 = 1 := by decide
        omega
      unfold addP
      rw [if_pos hn]
      rw [show (((2 : Nat)) : Int) = 2 from rfl]
      exact raddr_2 A c z x y g x0 x1 y0 y1 g0 g1 hnc w R
    · obtain rfl : n = 1 := by
        have h : mbP 3 = 1 := by decide
        omega
      unfold addP
      rw [if_pos hn]
      rw [show (((3 : Nat)) : Int) = 3 from rfl]
      exact raddr_3 A c z x y g x0 x1 y0 y1 g0 g1 hnc w R
    · obtain rfl : n = 1 := by
        have h : mbP 4 = 1 := by decide
        omega
      unfold addP
      rw [if_pos hn]
      rw [show (((4 : Nat)) : Int) = 4 from rfl]
      exact raddr_4 A c z x y g x0 x1 y0 y1 g0 g1 hnc w R
    · obtain rfl : n = 2 := by
        have h : mbP 5 = 2 := by decide
        omega
      unfold addP
      rw [if_pos hn]
      rw [show (((5 : Nat)) : Int) = 5 from rfl]
      exact raddr_5 A c z x y g x0 x1 y0 y1 g0 g1 hnc w R
    · obtain rfl : n = 2 := by
        have h : mbP 6 = 2 := by decide
        omega
      unfold addP
      rw [if_pos hn]
      rw [show (((6 : Nat)) : Int) = 6 from rfl]
      exact raddr_6 A c z x y g x0 x1 y0 y1 g0 g1 hnc w R
    · obtain rfl : n = 2 := by
        have h : mbP 7 = 2 := by decide
        omega
      unfold addP
      rw [if_pos hn]
      rw [show (((7 : Nat)) : Int) = 7 from rfl]
      exact raddr_7 A c z x y g x0 x1 y0 y1 g0 g1 hnc w R
    · obtain rfl : n = 1 := by
        have h : mbP 8 = 1 := by decide
        omega
      unfold addP
      rw [if_pos hn]
      rw [show (((8 : Nat)) : Int) = 8 from rfl]
      exact raddr_8 A c z x y g x0 x1 y0 y1 g0 g1 hnc w R
    · obtain rfl : n = 1 := by
        have h : mbP 9 = 1 := by decide
        omega
      unfold addP
      rw [if_pos hn]
      rw [show (((9 : Nat)) : Int) = 9 from rfl]
      exact raddr_9 A c z x y g x0 x1 y0 y1 g0 g1 hnc w R
    · obtain rfl : n = 1 := by
        have h : mbP 10 = 1 := by decide
        omega
      unfold addP
      rw [if_pos hn]
      rw [show (((10 : Nat)) : Int) = 10 from rfl]
      exact raddr_10 A c z x y g x0 x1 y0 y1 g0 g1 hnc w R
    · unfold addP
      rw [if_pos hn]
      exact raddr_no 11 hm A n c x y g (by omega) hn w
    · obtain rfl : n = 2 := by
        have h : mbP 12 = 2 := by decide
        omega
      unfold addP
      rw [if_pos hn]
      rw [show (((12 : Nat)) : Int) = 12 from rfl]
      exact raddr_12 A c z x y g x0 x1 y0 y1 g0 g1 hnc w R
    · obtain rfl : n = 2 := by
        have h : mbP 13 = 2 := by decide
        omega
      unfold addP
      rw [if_pos hn]
      rw [show (((13 : Nat)) : Int) = 13 from rfl]
      exact raddr_13 A c z x y g x0 x1 y0 y1 g0 g1 hnc w R
    · obtain rfl : n = 2 := by
        have h : mbP 14 = 2 := by decide
        omega
      unfold addP
      rw [if_pos hn]
      rw [show (((14 : Nat)) : Int) = 14 from rfl]
      exact raddr_14 A c z x y g x0 x1 y0 y1 g0 g1 hnc w R
    · obtain rfl : n = 3 := by
        have h : mbP 15 = 3 := by decide
        omega
      unfold addP
      rw [if_pos hn]
      rw [show (((15 : Nat)) : Int) = 15 from rfl]
      exact raddr_15 A c z x y g x0 x1 y0 y1 g0 g1 hnc w R
    · obtain rfl : n = 3 := by
        have h : mbP 16 = 3 := by decide
        omega
      unfold addP
      rw [if_pos hn]
      rw [show (((16 : Nat)) : Int) = 16 from rfl]
      exact raddr_16 A c z x y g x0 x1 y0 y1 g0 g1 hnc w R
    · obtain rfl : n = 2 := by
        have h : mbP 17 = 2 := by decide
        omega
      unfold addP
      rw [if_pos hn]
      rw [show (((17 : Nat)) : Int) = 17 from rfl]
      exact raddr_17 A c z x y g x0 x1 y0 y1 g0 g1 hnc w R
    · obtain rfl : n = 2 := by
        have h : mbP 18 = 2 := by decide
        omega
      unfold addP
      rw [if_pos hn]
      rw [show (((18 : Nat)) : Int) = 18 from rfl]
      exact raddr_18 A c z x y g x0 x1 y0 y1 g0 g1 hnc w R
    · unfold addP
      rw [if_pos hn]
      exact raddr_no 19 hm A n c x y g (by omega) hn w
    · rw [addP_hi _ _ _ _ _ _ h]
      exact raddr_no m hm A n c x y g (by omega) hn w
  · unfold addP
    rw [if_neg hn]
    exact raddr_len m hm A n c x y g hn w
set_option maxHeartbeats 4000000 in
theorem maddr_any (m : Nat) (hm : m < 256) (A : Option Addr) (n c : Nat) (hnc : n ≤ c) (z : Nat → Int) (x y g : Int) (x0 : 0 ≤ x) (x1 : x ≤ 255) (y0 : 0 ≤ y) (y1 : y ≤ 255) (g0 : 0 ≤ g) (g1 : g ≤ 65535) (w : World) (R : IRow w .u8 A n z) : Calls Tryd.prog 10 #[.int .u8 (m : Int), .slice A n c, .int .u8 x, .int .u8 y, .int .u16 g] w fun e w' => e = .returned (.tuple (addP m n z x y g)) ∧ Below w.heap.size w w' := by
  by_cases hn : (n : Int) = mbP m
  · rcases modes_of m with rfl | rfl | rfl | rfl | rfl | rfl | rfl | rfl | rfl | rfl | rfl | rfl | rfl | rfl | rfl | rfl | rfl | rfl | rfl | rfl | h
    · unfold addP
      rw [if_pos hn]
      exact same_any (maddr_no 0 A n c x y g (by omega) w)
    · unfold addP
      rw [if_pos hn]
      exact same_any (maddr_no 1 A n c x y g (by omega) w)
    · obtain rfl : n = 1 := by
        have h : mbP 2 = 1 := by decide
        omega
      unfold addP
      rw [if_pos hn]
      rw [show (((2 : Nat)) : Int) = 2 from rfl]
      exact maddr_2 A c z x y g hnc x0 x1 y0 y1 g0 g1 w R
    · obtain rfl : n = 1 := by
        have h : mbP 3 = 1 := by decide
        omega
      unfold addP
      rw [if_pos hn]
      rw [show (((3 : Nat)) : Int) = 3 from rfl]
      exact maddr_3 A c z x y g hnc x0 x1 y0 y1 g0 g1 w R
    · obtain rfl : n = 1 := by
        have h : mbP 4 = 1 := by decide
        omega
      unfold addP
      rw [if_pos hn]
      rw [show (((4 : Nat)) : Int) = 4 from rfl]
      exact maddr_4 A c z x y g hnc x0 x1 y0 y1 g0 g1 w R
    · obtain rfl : n = 2 := by
        have h : mbP 5 = 2 := by decide
        omega
      unfold addP
      rw [if_pos hn]
      rw [show (((5 : Nat)) : Int) = 5 from rfl]
      exact maddr_5 A c z x y g hnc x0 x1 y0 y1 w R
    · obtain rfl : n = 2 := by
        have h : mbP 6 = 2 := by decide
        omega
      unfold addP
      rw [if_pos hn]
      rw [show (((6 : Nat)) : Int) = 6 from rfl]
      exact maddr_6 A c z x y g hnc x0 x1 y0 y1 w R
    · obtain rfl : n = 2 := by
        have h : mbP 7 = 2 := by decide
        omega
      unfold addP
      rw [if_pos hn]
      rw [show (((7 : Nat)) : Int) = 7 from rfl]
      exact maddr_7 A c z x y g hnc x0 x1 y0 y1 w R
    · obtain rfl : n = 1 := by
        have h : mbP 8 = 1 := by decide
        omega
      unfold addP
      rw [if_pos hn]
      rw [show (((8 : Nat)) : Int) = 8 from rfl]
      exact maddr_8 A c z x y g hnc x0 x1 y0 y1 g0 g1 w R
    · obtain rfl : n = 1 := by
        have h : mbP 9 = 1 := by decide
        omega
      unfold addP
      rw [if_pos hn]
      rw [show (((9 : Nat)) : Int) = 9 from rfl]
      exact maddr_9 A c z x y g hnc x0 x1 y0 y1 g0 g1 w R
    · obtain rfl : n = 1 := by
        have h : mbP 10 = 1 := by decide
        omega
      unfold addP
      rw [if_pos hn]
      rw [show (((10 : Nat)) : Int) = 10 from rfl]
      exact maddr_10 A c z x y g hnc x0 x1 y0 y1 g0 g1 w R
    · unfold addP
      rw [if_pos hn]
      exact same_any (maddr_no 11 A n c x y g (by omega) w)
    · obtain rfl : n = 2 := by
        have h : mbP 12 = 2 := by decide
        omega
      unfold addP
      rw [if_pos hn]
      rw [show (((12 : Nat)) : Int) = 12 from rfl]
      exact maddr_12 A c z x y g hnc x0 x1 y0 y1 g0 g1 w R
    · obtain rfl : n = 2 := by
        have h : mbP 13 = 2 := by decide
        omega
      unfold addP
      rw [if_pos hn]
      rw [show (((13 : Nat)) : Int) = 13 from rfl]
      exact maddr_13 A c z x y g hnc x0 x1 y0 y1 g0 g1 w R
    · obtain rfl : n = 2 := by
        have h : mbP 14 = 2 := by decide
        omega
      unfold addP
      rw [if_pos hn]
      rw [show (((14 : Nat)) : Int) = 14 from rfl]
      exact maddr_14 A c z x y g hnc x0 x1 y0 y1 g0 g1 w R
    · obtain rfl : n = 3 := by
        have h : mbP 15 = 3 := by decide
        omega
      unfold addP
      rw [if_pos hn]
      rw [show (((15 : Nat)) : Int) = 15 from rfl]
      exact maddr_15 A c z x y g hnc x0 x1 y0 y1 w R
    · obtain rfl : n = 3 := by
        have h : mbP 16 = 3 := by decide
        omega
      unfold addP
      rw [if_pos hn]
      rw [show (((16 : Nat)) : Int) = 16 from rfl]
      exact maddr_16 A c z x y g hnc x0 x1 y0 y1 w R
    · obtain rfl : n = 2 := by
        have h : mbP 17 = 2 := by decide
        omega
      unfold addP
      rw [if_pos hn]
      rw [show (((17 : Nat)) : Int) = 17 from rfl]
      exact maddr_17 A c z x y g hnc x0 x1 y0 y1 g0 g1 w R
    · obtain rfl : n = 2 := by
        have h : mbP 18 = 2 := by decide
        omega
      unfold addP
      rw [if_pos hn]
      rw [show (((18 : Nat)) : Int) = 18 from rfl]
      exact maddr_18 A c z x y g hnc x0 x1 y0 y1 g0 g1 w R
    · unfold addP
      rw [if_pos hn]
      exact same_any (maddr_no 19 A n c x y g (by omega) w)
    · rw [addP_hi _ _ _ _ _ _ h]
      exact same_any (maddr_no m A n c x y g (by omega) w)
  · unfold addP
    rw [if_neg hn]
    exact same_any (maddr_len m A n c x y g hn w)
end Go.Proofs.YtdhnnegigjjoeaaDoor
