/-
  The statements' alike: all of work memory is as a row of bytes tells.
-/
import Derived.Test.YtfhndajhlpakoaaRam11
import Derived.Test.YtfhndajhlpakoaaRam9
import Derived.Test.YtfhndajhlpakoaaRam6
import Derived.Test.YtfhndajhlpakoaaCart14
import Derived.Test.YtfhndajhlpakoaaCart15
import Derived.Test.YtfhndajhlpakoaaCart16
import Derived.Test.YtfhndajhlpakoaaCart5
namespace Go.Proofs.Ytfhndajhlpakoaa
open Go.RowKit
set_option linter.unusedVariables false
set_option linter.unusedSimpArgs false
set_option maxRecDepth 100000
set_option maxHeartbeats 4000000 in
theorem alike_any {w : World} {g gp cp : Nat} {mb : Option Nat} {f : Nat → Int} (h : Both w g gp mb f) (hf : ∀ i, (Lit.int .u8 (f i)).wf = true) (hcp : 8192 ≤ cp) (hcm : cp ≤ maxLen) :
    Calls Try.prog 19 #[.pointer (some ⟨g, 0, none⟩), .slice (some ⟨gp, 0, none⟩) 8192 cp] w fun e w' => e = .returned (.bool true) ∧ Below w.heap.size w w' := by
  obtain ⟨hR, C, hC, hA⟩ := h
  have HR := Lib.hid hR
  have HC := Lib.hid hC
  have HA := Lib.hid hA
  have HF := Lib.hid hf
  clear hR hC hA hf
  go_enter Try.func19, Try.ntmps19
  go_wp2_with fail
  go_loopw [5] (fun i wr => ∃ k : Nat, k ≤ 8192 ∧ i = .int .i64 k ∧ Below w.heap.size w wr) (fun i _ => 8192 - (intOf i).toNat)
  case atStart => exact ⟨0, by omega, rfl, Below.refl _ _⟩
  case round =>
    obtain ⟨k, hk, rfl, hB⟩ := hrel
    have HB := Lib.hid hB
    clear hB
    by_cases hlt : k < 8192
    · have i0 : (0 : Int) ≤ (k : Int) := by omega
      have i1 : (k : Int) < 8192 := by omega
      have tu : IntKind.u16.wrap (k : Int) = k := IntWalk.u16_in _ (by omega)
      have hne := ne_self (f k)
      have ck : wr.cell? ⟨gp, k, none⟩ = some (.int .u8 (f k)) := by rw [(HC.out.below HB.out HC.out.lt).cell]; simpa using HA.out k hlt
      have hs := HB.out.size
      have hR1 := HR.out.keep HB.out
      have HR1 := Lib.hid hR1
      have hk2 : ((k : Int) % 8192).toNat = k := by omega
      have HK := Lib.hid hk2
      clear hR1 hk2
      go_wp2_with fail
      refine rg_begin (S := fun w' => w'.cell? ⟨gp, k, none⟩ = some (.int .u8 (f k))) 9 #[false, false, false, false, false, false, false, false, false] (by kernel_rfl) (by kernel_rfl) (by kernel_rfl) ?_ (fun hHeld => ?_)
      · exact ck
      refine rg_take (i := 0) (d := some 10) (l := #[true, false, false, false, false, false, false, false, false]) (fuel := 8) (v := ?_) rfl (by kernel_rfl) (by kernel_rfl) (by kernel_rfl) (by kernel_rfl) (by kernel_rfl) (fun _ _ _ h => h) (by kernel_rfl) ?_ (by assumption) ?_
      rotate_left 1
      · (intro wS hSw; (try dsimp only at hSw); go_simp; try with_reducible rfl)
      try simp only [Act.put, List.setIfInBounds_toArray, List.set_cons_zero, List.set_cons_succ]
      refine rg_take (i := 1) (d := some 11) (l := #[true, true, false, false, false, false, false, false, false]) (fuel := 7) (v := ?_) rfl (by kernel_rfl) (by kernel_rfl) (by kernel_rfl) (by kernel_rfl) (by kernel_rfl) (fun _ _ _ h => h) (by kernel_rfl) ?_ (by assumption) ?_
      rotate_left 1
      · (intro wS hSw; (try dsimp only at hSw); go_simp; try with_reducible rfl)
      try simp only [Act.put, List.setIfInBounds_toArray, List.set_cons_zero, List.set_cons_succ]
      refine rg_take (i := 2) (d := some 12) (l := #[true, true, true, false, false, false, false, false, false]) (fuel := 6) (v := ?_) rfl (by kernel_rfl) (by kernel_rfl) (by kernel_rfl) (by kernel_rfl) (by kernel_rfl) (fun _ _ _ h => h) (by kernel_rfl) ?_ (by assumption) ?_
      rotate_left 1
      · (intro wS hSw; (try dsimp only at hSw); go_simp; try with_reducible rfl)
      try simp only [Act.put, List.setIfInBounds_toArray, List.set_cons_zero, List.set_cons_succ]
      refine rg_take (i := 4) (d := some 14) (l := #[true, true, true, false, true, false, false, false, false]) (fuel := 5) (v := ?_) rfl (by kernel_rfl) (by kernel_rfl) (by kernel_rfl) (by kernel_rfl) (by kernel_rfl) (fun _ _ _ h => h) (by kernel_rfl) ?_ (by assumption) ?_
      rotate_left 1
      · (intro wS hSw; (try dsimp only at hSw); go_simp; try with_reducible rfl)
      try simp only [Act.put, List.setIfInBounds_toArray, List.set_cons_zero, List.set_cons_succ]
      refine rg_take (i := 5) (d := some 15) (l := #[true, true, true, false, true, true, false, false, false]) (fuel := 4) (v := ?_) rfl (by kernel_rfl) (by kernel_rfl) (by kernel_rfl) (by kernel_rfl) (by kernel_rfl) (fun _ _ _ h => h) (by kernel_rfl) ?_ (by assumption) ?_
      rotate_left 1
      · (intro wS hSw; (try dsimp only at hSw); go_simp; try with_reducible rfl)
      try simp only [Act.put, List.setIfInBounds_toArray, List.set_cons_zero, List.set_cons_succ]
      refine rg_take (i := 6) (d := some 16) (l := #[true, true, true, false, true, true, true, false, false]) (fuel := 3) (v := ?_) rfl (by kernel_rfl) (by kernel_rfl) (by kernel_rfl) (by kernel_rfl) (by kernel_rfl) (fun _ _ _ h => h) (by kernel_rfl) ?_ (by assumption) ?_
      rotate_left 1
      · (intro wS hSw; (try dsimp only at hSw); go_simp; try with_reducible rfl)
      try simp only [Act.put, List.setIfInBounds_toArray, List.set_cons_zero, List.set_cons_succ]
      refine rg_take (i := 7) (d := some 17) (l := #[true, true, true, false, true, true, true, true, false]) (fuel := 2) (v := ?_) rfl (by kernel_rfl) (by kernel_rfl) (by kernel_rfl) (by kernel_rfl) (by kernel_rfl) (fun _ _ _ h => h) (by kernel_rfl) ?_ (by assumption) ?_
      rotate_left 1
      · (intro wS hSw; (try dsimp only at hSw); go_simp; try with_reducible rfl)
      try simp only [Act.put, List.setIfInBounds_toArray, List.set_cons_zero, List.set_cons_succ]
      refine rg_next (i := 3) (l := #[true, true, true, true, true, true, true, true, false]) (fuel := 1) (by kernel_rfl) rfl (by kernel_rfl) (by kernel_rfl) (fun K hK => ?_)
      go_simp
      (go_at_call 26)
      refine (rread_any (w := wr.drew) (by exact HR1.out) (k : Int) i0 (by omega)).mono ?_
      rw [HK.out]
      rintro e w1 ⟨rfl, k1⟩
      have B1 := Lib.hid (HB.out.drew.trans (k1.mono hs))
      have cx : w1.cell? ⟨gp, k, none⟩ = some (.int .u8 (f k)) := by (rw [(HC.out.below B1.out HC.out.lt).cell]; simpa using HA.out k hlt)
      clear k1
      first | (refine hK.out _ _ ?_ (fun hHeld => ?_)) | (go_wp2_with fail; refine hK.out _ _ ?_ (fun hHeld => ?_))
      · (try dsimp only); exact cx
      clear hK K
      try simp only [Act.put, List.setIfInBounds_toArray, List.set_cons_zero, List.set_cons_succ]
      refine rg_take (i := 8) (d := some 18) (l := #[true, true, true, true, true, true, true, true, true]) (fuel := 0) (v := ?_) rfl (by kernel_rfl) (by kernel_rfl) (by kernel_rfl) (by kernel_rfl) (by kernel_rfl) (fun _ _ _ h => h) (by kernel_rfl) ?_ (by assumption) ?_
      rotate_left 1
      · (intro wS hSw; (try dsimp only at hSw); go_simp; try with_reducible rfl)
      try simp only [Act.put, List.setIfInBounds_toArray, List.set_cons_zero, List.set_cons_succ]
      refine wpAnyH_done (by kernel_rfl) ?_ _
      go_wp2_with fail
      go_roundw
      case rel => exact ⟨k + 1, by omega, by go_num, B1.out⟩
      case measure => simp [intOf]; omega
    · obtain rfl : k = 8192 := by omega
      have hs := HB.out.size
      have H1 := Lib.hid (HR.out.keep HB.out)
      have C1 := Lib.hid (HC.out.below HB.out HC.out.lt)
      go_wp2_with fail
      refine (rpieces_any (f := f) (.inr ⟨g, mb, rfl, H1.out⟩) (fun i _ => HF.out i)).mono ?_
      rintro e w1 ⟨⟨v, qs, Bq, rfl, q1, q2⟩, k1⟩
      obtain ⟨Aq, cq, rfl, Rq⟩ := prow_any q1 q2
      have hlen : (runs f 8192).length ≤ 8192 := runs_len f 8192
      have B1 := Lib.hid (HB.out.trans (k1.mono hs))
      have H2 := Lib.hid (H1.out.keep k1)
      have C2 := Lib.hid (C1.out.below k1 C1.out.lt)
      have HRq := Lib.hid Rq
      have HQ2 := Lib.hid q2
      clear q1 q2 Rq k1 H1 C1
      go_wp2_with fail
      refine (refPieces_any (some ⟨gp, 0, none⟩) 8192 cp f hcp hcm (by omega) (BAt.row C2.out HA.out HF.out)).mono ?_
      rintro e w2 ⟨⟨v2, rs, rfl, r1, r2⟩, k2⟩
      obtain ⟨Ar, cr, rfl, Rr⟩ := prow_any r1 r2
      have B2 := Lib.hid (B1.out.trans (k2.mono B1.out.size))
      have H3 := Lib.hid (H2.out.keep k2)
      have C3 := Lib.hid (C2.out.below k2 C2.out.lt)
      have HRq2 := Lib.hid (HRq.out.keep k2)
      have HRr := Lib.hid Rr
      have HR2 := Lib.hid r2
      clear r1 r2 Rr k2 H2 C2 HRq
      go_wp2_with fail
      refine (rsameP_yes Aq Ar _ _ _ qs rs (by omega) HRq2.out HRr.out (fun i hi => ?_)).mono ?_
      · have h1 := HQ2.out i hi
        have h2 := HR2.out i hi
        exact ⟨by rw [h1.1, h2.1], by rw [h1.2.1, h2.2.1], by rw [h1.2.2.1, h2.2.2.1]⟩
      rintro e w3 ⟨rfl, k3⟩
      have B3 := Lib.hid (B2.out.trans (k3.mono B2.out.size))
      have H4 := Lib.hid (H3.out.keep k3)
      have C4 := Lib.hid (C3.out.below k3 C3.out.lt)
      clear k3 H3 C3 HRq2 HRr
      go_wp2_with fail
      refine (blocks_any H4.out).mono ?_
      rintro e w' ⟨rfl, rfl⟩
      go_wp2_with fail
      refine (rblocks_any (some ⟨gp, 0, none⟩) cp f (BAt.row C4.out HA.out HF.out)).mono ?_
      rintro e w' ⟨rfl, rfl⟩
      go_wp2_with fail
      go_ret
      exact ⟨by simp, B3.out⟩
end Go.Proofs.Ytfhndajhlpakoaa
