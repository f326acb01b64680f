/-
  Work memory: the statements' first test of package ram holds.
-/
import Derived.Test.YtfhndajhlpakoaaRam6
import Derived.Test.YtfhndajhlpakoaaCart16
namespace Go.Proofs.Ytfhndajhlpakoaa
open Go.RowKit
set_option linter.unusedVariables false
set_option linter.unusedSimpArgs false
set_option maxRecDepth 100000
def f7 : Nat → Int := fw (fun _ => 0) 8193 7
theorem f7_at (i : Nat) : f7 i = if i = 1 then 7 else 0 := by
  show (if i = ((8193 : Int) % 8192).toNat then (7 : Int) else 0) = _
  rfl
theorem f7_wf (i : Nat) (h : i < 8192) : (Lit.int .u8 (f7 i)).wf = true := by rw [f7_at]; split <;> decide
theorem zero_wf (i : Nat) (h : i < 8192) : (Lit.int .u8 ((fun _ => 0 : Nat → Int) i)).wf = true := by show (Lit.int .u8 0).wf = true; decide
theorem runs_f7 : runs f7 8192 = [(1, 1)] := by
  rw [runs_zero f7 2 8192 (by omega) (fun j a b => by rw [f7_at, if_neg (by omega)])]
  simp [runs, f7_at]
theorem runs_none : runs (fun _ => 0) 8192 = [] := by
  rw [runs_zero _ 0 8192 (by omega) (fun j a b => rfl)]
  rfl
theorem cnt_f7 : cnt f7 128 = 1 := by
  have h := cnt_put (fun _ => 0) 0 (fun i => if i = 1 then 7 else 0) 128 (by omega)
  have e : cnt f7 128 = cnt (fput (fun _ => 0) 0 (fun i => if i = 1 then 7 else 0)) 128 := by
    apply cnt_same
    intro k hk
    unfold nz
    congr 1
    funext i
    rw [f7_at]
    unfold fput
    by_cases h1 : 64 * k + i = 1
    · rw [h1, if_pos rfl, if_pos (by omega)]; rfl
    · rw [if_neg h1]
      split
      · show _ = ((if 64 * k + i - 64 * 0 = 1 then (7 : Int) else 0) != 0)
        rw [if_neg (by omega)]
      · rfl
  have z0 : cnt (fun _ => 0) 128 = 0 := cnt_zero fun _ _ => rfl
  have n0 : nz (fun _ => 0) 0 = false := by kernel_rfl
  have b0 : zB (fun i => if i = 1 then 7 else 0) = false := by kernel_rfl
  rw [z0, n0, b0] at h
  rw [e]
  simpa using h
theorem first_f7 {r : Int} (h : FirstD f7 (fun _ => 0) 8192 r) : r = 1 := by
  rcases h with ⟨_, h⟩ | ⟨k, hk, rfl, hne, h⟩
  · have := h 1 (by omega); rw [f7_at, if_pos rfl] at this; cases this
  · rcases Nat.lt_trichotomy k 1 with h1 | h1 | h1
    · exact absurd (by rw [f7_at, if_neg (by omega)]) hne
    · rw [h1]; rfl
    · have := h 1 h1; rw [f7_at, if_pos rfl] at this; cases this
theorem first_same {a : Nat → Int} {r : Int} (h : FirstD a a 8192 r) : r = -1 := by
  rcases h with ⟨h, _⟩ | ⟨k, hk, rfl, hne, h⟩
  · exact h
  · exact absurd rfl hne
set_option maxHeartbeats 4000000 in
theorem liveR_any (w : World) : Calls Try.prog 14 #[] w fun e w' => e = .returned (.bool true) ∧ Below w.heap.size w w' := by
  go_enter Try.func14, Try.ntmps14
  go_wp2_with fail
  refine (rnew_any _).mono ?_
  rintro e w1 ⟨rfl, h1, hB1⟩
  have H1 := Lib.hid h1
  have hg : w.heap.size ≤ w.heap.size := Nat.le_refl _
  generalize hgg : w.heap.size = g at h1 hB1 H1 ⊢
  have HGG := Lib.hid hgg
  have gs : ∀ (W : World), Below g w W → g ≤ W.heap.size := fun W h => by have := h.size; omega
  have GS := Lib.hid gs
  clear h1 hg hgg gs
  go_wp2_with fail
  refine (rwrite_any H1.out 8193 7 (by omega) (by omega)).mono ?_
  rintro e w2 ⟨rfl, mb, h2, k2, m2⟩
  have H2 : Hid (RA w2 (.pointer (some ⟨g, 0, none⟩)) f7) := Lib.hid (.inr ⟨g, mb, rfl, h2⟩)
  have hB2 := k2.onto hB1 (GS.out _ hB1) (by simp)
  have D2 : Hid (RD w2 g mb f7) := Lib.hid h2
  clear h2 k2 m2 hB1
  go_wp2_with fail
  refine (rpieces_any H2.out f7_wf).mono ?_
  rintro e w3 ⟨⟨v, ps, B, rfl, q1, q2⟩, q3⟩
  have hB3 := hB2.trans (q3.mono (GS.out _ hB2))
  have H3 := Lib.hid (H2.out.keep q3)
  have D3 := Lib.hid (D2.out.keep q3)
  rw [runs_f7] at q1 q2
  obtain ⟨Ap, cap, rfl, R⟩ := prow_any q1 q2
  obtain ⟨ad, rfl, hl3, pc1, pc2, _⟩ := R 0 (by simp)
  obtain ⟨e1, e2, _, _⟩ := q2 0 (by simp)
  simp only [List.getD_cons_zero] at e1 e2
  rw [e1] at pc1
  rw [e2] at pc2
  generalize (ps 0).A = A0 at *
  generalize (ps 0).c = C0 at *
  have HR := Lib.hid (And.intro pc1 pc2)
  clear R q1 q2 q3 e1 e2 hB2 H2 D2 pc1 pc2
  go_wp2_with fail
  refine (rwrite_nil _ _ _).mono ?_
  rintro e w' ⟨rfl, rfl⟩
  go_wp2_with fail
  refine (rread_any D3.out 1 (by omega) (by omega)).mono ?_
  rw [show f7 ((1 : Int) % 8192).toNat = 7 from by rw [f7_at]; rfl]
  rintro e w4 ⟨rfl, h4⟩
  have hB4 := hB3.trans (h4.mono (GS.out _ hB3))
  have H4 := Lib.hid (H3.out.keep h4)
  have D4 := Lib.hid (D3.out.keep h4)
  have pc1 := (h4.cell (p := ad.add (0 * 2)) (by rw [block_of_add]; exact hl3)).trans HR.out.1
  have pc2 := (h4.cell (p := ad.add (0 * 2 + 1)) (by rw [block_of_add]; exact hl3)).trans HR.out.2
  have e0 : ad.add 0 = ad := by unfold Addr.add; simp
  rw [Nat.zero_mul] at pc1 pc2
  have pc2 := cell_next (k := 0) (ad := ad) pc2
  rw [e0] at pc1 pc2
  have pd1 : w4.cell? ad = some (.int .i64 1) := pc1
  have pd2 : w4.cell? ⟨ad.block, ad.off + 1, none⟩ = some (.slice A0 1 C0) := pc2
  clear hB3 h4 H3 D3 pc1 pc2 e0
  go_wp2_with fail
  refine (blocks_any D4.out).mono ?_
  rw [cnt_f7]
  rintro e w' ⟨rfl, rfl⟩
  go_wp2_with fail
  refine (rread_nil _ 1 (by omega) (by omega)).mono ?_
  rintro e w5 ⟨rfl, h5⟩
  have hB5 := hB4.trans (h5.mono (GS.out _ hB4))
  have H5 := Lib.hid (H4.out.keep h5)
  clear hB4 h5 H4 D4
  go_wp2_with fail
  refine (rclone_nil _).mono ?_
  rintro e w' ⟨rfl, rfl⟩
  go_wp2_with fail
  refine (rpieces_any (f := fun _ => 0) (.inl ⟨rfl, rfl⟩) zero_wf).mono ?_
  rintro e w6 ⟨⟨v, qs, B2, rfl, q1, q2⟩, q3⟩
  rw [runs_none] at q1 q2
  obtain ⟨Aq, capq, rfl, _⟩ := prow_any q1 q2
  have hB6 := hB5.trans (q3.mono (GS.out _ hB5))
  have H6 := Lib.hid (H5.out.keep q3)
  clear hB5 q3 H5 q1 q2
  go_wp2_with fail
  refine (blocks_nil _).mono ?_
  rintro e w' ⟨rfl, rfl⟩
  go_wp2_with fail
  refine (other_any H6.out (.inl ⟨rfl, rfl⟩)).mono ?_
  rintro e w7 ⟨⟨r, rfl, hr⟩, h7⟩
  obtain rfl := first_f7 hr
  have hB7 := hB6.trans (h7.mono (GS.out _ hB6))
  clear hr hB6 h7 H6
  go_wp2_with fail
  refine (rnew_any _).mono ?_
  rintro e w8 ⟨rfl, h8, k8⟩
  have hB8 := hB7.trans (k8.mono (GS.out _ hB7))
  have H8 : Hid (RA w8 (.pointer (some ⟨w7.heap.size, 0, none⟩)) (fun _ => 0)) := Lib.hid (.inr ⟨_, _, rfl, h8⟩)
  clear hB7 h8 k8
  go_wp2_with fail
  refine (rsame_any (.inl ⟨rfl, rfl⟩) H8.out).mono ?_
  rintro e w9 ⟨⟨r, rfl, hr⟩, h9⟩
  obtain rfl := first_same hr
  have hB9 := hB8.trans (h9.mono (GS.out _ hB8))
  go_wp2_with fail
  go_ret
  refine ⟨rfl, ?_⟩
  rw [HGG.out]
  exact hB9
end Go.Proofs.Ytfhndajhlpakoaa
