/-
  Layer 16: Of.
-/
import Derived.Test.YtaamfcbpelbboaaDoorMix6
namespace Go.Proofs.YtaamfcbpelbboaaDoor
open Go.RowKit
set_option linter.unusedVariables false
set_option linter.unusedSimpArgs false
set_option maxRecDepth 100000
theorem storeV (v : Nat → Vc) (W : World) : (storeCells ⟨W.heap.size, 0, none⟩ (vsC v 6).toList).run Tryd.prog (W.alloc (.cells (vsC (fun _ => Vc.zero) 6) 68)) = .ok () (W.alloc (.cells (vsC v 6) 68)) :=
  run_storeCells_new (P := Tryd.prog) W 68 (vsC (fun _ => Vc.zero) 6) (vsC v 6) (by rw [vsC_size]; kernel_rfl) (by rw [vsC_size, vsC_size]) (by rw [Array.all_eq_true]; intro i hi; exact vsC_one v 6 _ (by simp))
/-- What all voices make that are heard. -/
def ofL (v : Nat → Vc) (m : Int) : Int := sumTo (fun i => hrd (fun x => x.left m) (v i)) 6
def ofR (v : Nat → Vc) (m : Int) : Int := sumTo (fun i => hrd (fun x => x.right m) (v i)) 6
theorem vc_ok_of {w : World} {g : Nat} {ns : Nat → Nat} {s : Sg} (h : PG w g ns s) (i : Nat) (hi : i < 6) : (s.vc i).ok := by
  unfold Sg.vc
  split
  · exact Cw.vc_ok (h.2.1 i hi).2 (h.2.2.2.2.2.2 i)
  · unfold Vc.ok Vc.zero; decide
theorem of_any {w : World} (hT : TabAt w 0 4 pw) (hD : TabAt w 1 4 dp) {g : Nat} {ns : Nat → Nat} {s : Sg} (h : PG w g ns s) :
    Calls Tryd.prog 22 #[.pointer (some ⟨g, 0, none⟩)] w fun e w' => e = .returned (.tuple #[.int .i64 (ofL s.vc (s.lo / 16)), .int .i64 (ofR s.vc (s.lo % 16))]) ∧ Below w.heap.size w w' := by
  have H := Lib.hid h
  have HT := Lib.hid hT
  have hz := zeroV
  have hst := storeV s.vc
  have hsz := vsC_size s.vc 6
  obtain ⟨a0, a1⟩ := h.2.2.2.2.1
  obtain ⟨ml, hml⟩ : ∃ x, s.lo / 16 = x := ⟨_, rfl⟩
  obtain ⟨mr, hmr⟩ : ∃ x, s.lo % 16 = x := ⟨_, rfl⟩
  have HM := Lib.hid (show (0 ≤ ml ∧ ml ≤ 255) ∧ (0 ≤ mr ∧ mr ≤ 255) by omega)
  have HE := Lib.hid (And.intro hml hmr)
  rw [hml, hmr]
  clear h hT a0 a1 hml hmr
  go_enter Tryd.func22, Tryd.ntmps22
  go_wp2_with fail
  refine (voices_any H.out hD).mono ?_
  rintro e w1 ⟨rfl, b1⟩
  have HB1 := Lib.hid b1
  clear b1 hD
  go_wp2_with fail
  have bA : Below w.heap.size w (w1.alloc (.cells (vsC s.vc 6) 68)) := HB1.out.alloc HB1.out.size _
  have hb : Blk (w1.alloc (.cells (vsC s.vc 6) 68)) w1.heap.size 68 (vsC s.vc 6) := Blk.new w1 _ _
  have HA := Lib.hid (And.intro hb bA)
  have HG := Lib.hid HB1.out.size
  clear hb bA hst hz hsz
  generalize World.alloc _ _ = wa at *
  obtain ⟨b, hbb⟩ : ∃ b, w1.heap.size = b := ⟨_, rfl⟩
  rw [hbb] at HA HG
  simp only [hbb]
  clear hbb
  refine (pmain_any (H.out.below HA.out.2)).mono ?_
  rw [HE.out.1, HE.out.2]
  rintro e w2 ⟨rfl, b2⟩
  have HC := Lib.hid (And.intro (HA.out.1.below b2 HA.out.1.lt) (Below.trans HA.out.2 (b2.mono HA.out.2.size)))
  clear b2 HA
  go_wp2_with fail
  refine (del_any HC.out.1 (fun i hi => vc_ok_of H.out i hi)).mono ?_
  rintro e w3 ⟨m, u, hm, rfl, hv, hs, hk⟩
  have HV := Lib.hid hv
  have HS := Lib.hid hs
  have HK := Lib.hid (hk.onto HC.out.2 HC.out.2.size (by intro x hx; simp at hx; rw [hx]; exact HG.out))
  clear hv hs hk
  go_wp2_with fail
  refine (all_any (HT.out.below HK.out) HV.out (by omega) ml mr HM.out.1.1 HM.out.1.2 HM.out.2.1 HM.out.2.2).mono ?_
  rw [show lefts u ml m = ofL s.vc ml from HS.out (fun x => x.left ml), show rights u mr m = ofR s.vc mr from HS.out (fun x => x.right mr)]
  rintro e w4 ⟨rfl, b4⟩
  have HZ := Lib.hid (Below.trans HK.out (b4.mono HK.out.size))
  clear b4
  go_wp2_with fail
  go_ret2
  exact ⟨rfl, HZ.out⟩
theorem of_nil {w : World} (hT : TabAt w 0 4 pw) :
    Calls Tryd.prog 22 #[.pointer none] w fun e w' => e = .returned (.tuple #[.int .i64 0, .int .i64 0]) ∧ Below w.heap.size w w' := by
  have HT := Lib.hid hT
  have hz := zeroV
  have hst := storeV (fun _ => Vc.zero)
  have hsz := vsC_size (fun _ => Vc.zero) 6
  have z0 : ofL (fun _ => Vc.zero) 0 = 0 := by decide +kernel
  have z1 : ofR (fun _ => Vc.zero) 0 = 0 := by decide +kernel
  have HZ0 := Lib.hid (And.intro z0 z1)
  clear z0 z1 hT
  go_enter Tryd.func22, Tryd.ntmps22
  go_wp2_with fail
  refine (voices_nil _).mono ?_
  rintro e w1 ⟨rfl, b1⟩
  have HB1 := Lib.hid b1
  clear b1
  go_wp2_with fail
  have bA : Below w.heap.size w (w1.alloc (.cells (vsC (fun _ => Vc.zero) 6) 68)) := HB1.out.alloc HB1.out.size _
  have hb : Blk (w1.alloc (.cells (vsC (fun _ => Vc.zero) 6) 68)) w1.heap.size 68 (vsC (fun _ => Vc.zero) 6) := Blk.new w1 _ _
  have HA := Lib.hid (And.intro hb bA)
  have HG := Lib.hid HB1.out.size
  clear hb bA hst hz hsz
  generalize World.alloc _ _ = wa at *
  obtain ⟨b, hbb⟩ : ∃ b, w1.heap.size = b := ⟨_, rfl⟩
  rw [hbb] at HA HG
  simp only [hbb]
  clear hbb
  refine (pmain_nil _).mono ?_
  rintro e w2 ⟨rfl, rfl⟩
  have HC := HA
  go_wp2_with fail
  refine (del_any HC.out.1 (fun _ _ => by unfold Vc.ok Vc.zero; decide)).mono ?_
  rintro e w3 ⟨m, u, hm, rfl, hv, hs, hk⟩
  have HV := Lib.hid hv
  have HS := Lib.hid hs
  have HK := Lib.hid (hk.onto HC.out.2 HC.out.2.size (by intro x hx; simp at hx; rw [hx]; exact HG.out))
  clear hv hs hk
  go_wp2_with fail
  refine (all_any (HT.out.below HK.out) HV.out (by omega) 0 0 (by omega) (by omega) (by omega) (by omega)).mono ?_
  rw [show lefts u 0 m = ofL (fun _ => Vc.zero) 0 from HS.out (fun x => x.left 0), show rights u 0 m = ofR (fun _ => Vc.zero) 0 from HS.out (fun x => x.right 0), HZ0.out.1, HZ0.out.2]
  rintro e w4 ⟨rfl, b4⟩
  have HZ := Lib.hid (Below.trans HK.out (b4.mono HK.out.size))
  clear b4
  go_wp2_with fail
  go_ret2
  exact ⟨rfl, HZ.out⟩
end Go.Proofs.YtaamfcbpelbboaaDoor
