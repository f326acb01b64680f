/-
  Texts of these proofs, one behind the other: Mix6, Mix7.
-/
import Derived.Test.YtaamfcbpelbboaaDoorKM22
import Derived.Laws.IdiomCopy
namespace Go.Proofs.YtaamfcbpelbboaaDoor
open Go.RowKit
set_option linter.unusedVariables false
set_option linter.unusedSimpArgs false
set_option maxRecDepth 100000
theorem kp_setCells {L : List Nat} {a : World} {b : Nat} : ∀ (vs : List Value) (o : Nat) (w : World), Kp L a w → (b ∈ L ∨ a.heap.size ≤ b) → Kp L a (w.setCells b o vs)
  | [], _, _, k, _ => k
  | v :: r, o, w, k, hb => kp_setCells r (o + 1) _ (k.setCell (p := ⟨b, o, none⟩) hb v) hb
theorem zeroVc (w : World) : (zeroValue 32).run Tryd.prog w = .ok (.agg #[.int .u8 0, .int .u8 0, .int .u8 0, .int .u8 0]) w := (zero_of_info (show (Tryd.prog.info? 32).map (fun i => (i.zero, i.size)) = some (some (.agg #[.int .u8 0, .int .u8 0, .int .u8 0, .int .u8 0]), 4) by kernel_rfl)).1 w
theorem zc4 (n : Nat) : (Builtin.zeroCells #[.int .u8 0, .int .u8 0, .int .u8 0, .int .u8 0] n).toList = List.replicate (n * 4) (Value.int .u8 0) := by
  simp only [Builtin.zeroCells, Array.toList_map, Array.toList_range]
  apply List.ext_getElem
  · simp
  · intro i h1 h2
    simp only [List.getElem_map, List.getElem_range, List.getElem_replicate]
    have : i % 4 = 0 ∨ i % 4 = 1 ∨ i % 4 = 2 ∨ i % 4 = 3 := by omega
    show #[Value.int .u8 0, .int .u8 0, .int .u8 0, .int .u8 0][i % 4]! = _
    rcases this with h | h | h | h <;> rw [h] <;> rfl
theorem clear_vs {w : World} {b : Nat} {t ty : TypeId} {cs : Array Value} (h : Blk w b t cs) (hs : cs.size = 24) (i c : Nat) (hi : i < 6) :
    (Builtin.clear_ #[26] ty #[.slice (some ⟨b, i * 4, none⟩) (6 - i) c]).run Tryd.prog w = .ok (.tuple #[]) (w.setCells b (i * 4) (List.replicate ((6 - i) * 4) (.int .u8 0))) := by
  have hst := run_storeCells_cells (P := Tryd.prog) b (i * 4) (List.replicate ((6 - i) * 4) (.int .u8 0)) 0 w
    (fun j hj => by
      rw [List.length_replicate] at hj
      rw [Nat.add_zero, h.cell, Array.getElem?_eq_getElem (by rw [hs]; omega)]; rfl)
    (fun j _ => h.frozen _) (fun v hv => by rw [List.eq_of_mem_replicate hv]; rfl)
  simp only [Nat.add_zero] at hst
  obtain ⟨m, hm⟩ : ∃ m, 6 - i = m + 1 := ⟨6 - i - 1, by omega⟩
  rw [hm] at hst ⊢
  have hz : (Builtin.zeroCells (Value.agg #[.int .u8 0, .int .u8 0, .int .u8 0, .int .u8 0]).cells (m + 1)).toList = List.replicate ((m + 1) * 4) (.int .u8 0) := zc4 (m + 1)
  simp [Builtin.clear_, run_underlying Tryd.underlying26, zeroVc, hz, hst]
/-- What one counts of a voice that is heard. -/
def hrd (F : Vc → Int) (v : Vc) : Int := if v.un = true then 0 else F v
/-- The first m voices of u are those of the first j of v that are heard. -/
def Same_ (u : Nat → Vc) (m : Nat) (v : Nat → Vc) (j : Nat) : Prop := ∀ F : Vc → Int, sumTo (fun i => F (u i)) m = sumTo (fun i => hrd F (v i)) j
theorem same_all {v : Nat → Vc} {n : Nat} (h : ∀ j, j < n → (v j).un = false) : Same_ v n v n := fun F => sum_congr fun i hi => by unfold hrd; rw [h i hi]; rfl
theorem same_un {u v : Nat → Vc} {m j : Nat} (h : Same_ u m v j) (hu : (v j).un = true) : Same_ u m v (j + 1) := fun F => by
  rw [sumTo, h F]; unfold hrd; rw [if_pos hu]; omega
theorem same_hd {u v : Nat → Vc} {m j : Nat} (h : Same_ u m v j) (hu : (v j).un = false) : Same_ (fun i => if i = m then v j else u i) (m + 1) v (j + 1) := fun F => by
  rw [sumTo, sumTo, ← h F]
  simp only [if_true]
  rw [sum_congr (g := fun i => F (u i)) fun i hi => by rw [if_neg (by omega)]]
  unfold hrd; rw [hu]; rfl
/-- What lies there when j were looked at and m are kept. -/
def DI (w : World) (b : Nat) (t : TypeId) (v : Nat → Vc) (m j : Nat) (wr : World) : Prop :=
  ∃ u : Nat → Vc, Blk wr b t (vsC u 6) ∧ (∀ i, i < 6 → (u i).ok) ∧ (∀ i, j ≤ i → i < 6 → u i = v i) ∧ Same_ u m v j ∧ Kp [b] w wr
theorem vs_vr {w : World} {b : Nat} {t : TypeId} {u : Nat → Vc} {n : Nat} (h : Blk w b t (vsC u 6)) (hn : n ≤ 6) (ok : ∀ i, i < n → (u i).ok) : VR w (some ⟨b, 0, none⟩) n u :=
  vr_blk h ok fun i hi j hj => vsC_at u 6 i j (by omega) hj
theorem DI.below {w wr w2 : World} {b : Nat} {t : TypeId} {v : Nat → Vc} {m j : Nat} (h : DI w b t v m j wr) (k : Below wr.heap.size wr w2) : DI w b t v m j w2 := by
  obtain ⟨u, h1, h2, h3, h4, h5⟩ := h
  exact ⟨u, h1.below k h1.lt, h2, h3, h4, h5.trans (Kp.of_below (L := []) k) (by simp)⟩
theorem DI.skip {w wr : World} {b : Nat} {t : TypeId} {v : Nat → Vc} {m j : Nat} (h : DI w b t v m j wr) (hu : (v j).un = true) : DI w b t v m (j + 1) wr := by
  obtain ⟨u, h1, h2, h3, h4, h5⟩ := h
  exact ⟨u, h1, h2, fun i hi h6 => h3 i (by omega) h6, same_un h4 hu, h5⟩
theorem DI.put {w wr : World} {b : Nat} {t : TypeId} {v : Nat → Vc} {m j : Nat} (h : DI w b t v m j wr) (hu : (v j).un = false) (hm : m < j) (hj : j < 6) (ok : (v j).ok) :
    DI w b t v (m + 1) (j + 1) ((((wr.setCell ⟨b, m * 4, none⟩ (.int .u8 (v j).lv)).setCell ⟨b, m * 4 + 1, none⟩ (.int .u8 (v j).vo)).setCell ⟨b, m * 4 + 2, none⟩ (.int .u8 (v j).lf)).setCell ⟨b, m * 4 + 3, none⟩ (.int .u8 (v j).rt)) := by
  obtain ⟨u, h1, h2, h3, h4, h5⟩ := h
  refine ⟨fun i => if i = m then v j else u i, ?_, fun i hi => ?_, fun i hi h6 => ?_, same_hd h4 hu, ((((h5.setCell (.inl (by simp)) _).setCell (.inl (by simp)) _).setCell (.inl (by simp)) _).setCell (.inl (by simp)) _)⟩
  · have q := (((h1.set_ (m * 4) (.int .u8 (v j).lv)).set_ (m * 4 + 1) (.int .u8 (v j).vo)).set_ (m * 4 + 2) (.int .u8 (v j).lf)).set_ (m * 4 + 3) (.int .u8 (v j).rt)
    rwa [vsC_put _ 6 m (by omega) (v j)] at q
  · by_cases e : i = m
    · simp only [e, if_true]; exact ok
    · simp only [e, if_false]; exact h2 i hi
  · simp only [if_neg (show ¬ i = m by omega)]; exact h3 i (by omega) h6
theorem DI.cells {w wr : World} {b : Nat} {t : TypeId} {v : Nat → Vc} {m j : Nat} (h : DI w b t v m j wr) (i : Nat) (hi : i < 6) (hji : j ≤ i) :
    wr.cell? ⟨b, i * 4, none⟩ = some (.int .u8 (v i).lv) ∧ wr.cell? ⟨b, i * 4 + 1, none⟩ = some (.int .u8 (v i).vo) ∧ wr.cell? ⟨b, i * 4 + 2, none⟩ = some (.int .u8 (v i).lf) ∧ wr.cell? ⟨b, i * 4 + 3, none⟩ = some (.int .u8 (v i).rt) := by
  obtain ⟨u, h1, h2, h3, h4, h5⟩ := h
  rw [← h3 i hji hi]
  refine ⟨?_, ?_, ?_, ?_⟩ <;> rw [h1.cell]
  · exact vsC_at u 6 i 0 hi (by decide)
  · exact vsC_at u 6 i 1 hi (by decide)
  · exact vsC_at u 6 i 2 hi (by decide)
  · exact vsC_at u 6 i 3 hi (by decide)
theorem DI.some {w wr : World} {b : Nat} {t : TypeId} {v : Nat → Vc} {m j : Nat} (h : DI w b t v m j wr) (q : Nat) (hq : q < 24) : (∃ u, wr.cell? ⟨b, q, none⟩ = some u) ∧ wr.frozen? ⟨b, q, none⟩ = false := by
  obtain ⟨u, h1, h2, h3, h4, h5⟩ := h
  exact ⟨⟨_, by rw [h1.cell, Array.getElem?_eq_getElem (by rw [vsC_size]; omega)]⟩, h1.frozen q⟩
set_option maxHeartbeats 2000000 in
theorem del_any {w : World} {b : Nat} {t : TypeId} {v : Nat → Vc} (h : Blk w b t (vsC v 6)) (ok : ∀ i, i < 6 → (v i).ok) :
    Calls Tryd.prog 37 #[.slice (some ⟨b, 0, none⟩) 6 6, .func (.func 38) #[] #[]] w fun e w' => ∃ m u, m ≤ 6 ∧ e = .returned (.slice (some ⟨b, 0, none⟩) m 6) ∧ VR w' (some ⟨b, 0, none⟩) m u ∧ Same_ u m v 6 ∧ Kp [b] w w' := by
  have H := Lib.hid h
  have HO := Lib.hid ok
  clear h ok
  go_enter Tryd.func37, Tryd.ntmps37
  go_wp2_with fail
  refine (ixf_any (vs_vr H.out (Nat.le_refl 6) HO.out) (by omega)).mono ?_
  rintro e w1 ⟨hh, b1⟩
  have HB := Lib.hid b1
  clear b1
  rcases hh with ⟨k, hk, hu, hb, rfl⟩ | ⟨hb, rfl⟩
  · have i0 : (0 : Int) ≤ (k : Int) := by omega
    have i1 : (k : Int) < 6 := by omega
    have HI : Hid (DI w b t v k (k + 1) w1) := Lib.hid ⟨v, H.out.below HB.out H.out.lt, HO.out, fun _ _ _ => rfl, same_un (same_all hb) hu, Kp.of_below HB.out⟩
    clear hb hu
    have n1 : ((k : Int) == -1) = false := neqB (by omega)
    have HM := Lib.hid (show k < 6 ∧ k < k + 1 ∧ k + 1 ≤ 6 by omega)
    go_wp2_with fail
    go_loopw [5, 6] (fun a c wr => ∃ m j : Nat, (m < 6 ∧ m < j ∧ j ≤ 6) ∧ a = .int .i64 m ∧ c = .int .i64 j ∧ DI w b t v m j wr) (fun _ c _ => 6 - (intOf c).toNat)
    case atStart => exact ⟨k, k + 1, HM.out, rfl, by go_num, HI.out⟩
    case round =>
      obtain ⟨m, j, ⟨hm6, hmj, hj6⟩, rfl, rfl, hI⟩ := hrel
      clear HI HM i0 i1 hk
      have i0 : (0 : Int) ≤ (m : Int) := by omega
      have i1 : (m : Int) < 6 := by omega
      have i2 : (0 : Int) ≤ (j : Int) := by omega
      by_cases hlt : j < 6
      · have i3 : (j : Int) < 6 := by omega
        obtain ⟨q0, q1, q2, q3⟩ := hI.cells j hlt (Nat.le_refl j)
        have HI := Lib.hid hI
        obtain ⟨u, hu⟩ : ∃ u, (v j).un = u := ⟨_, rfl⟩
        have HX := Lib.hid hu
        clear hI hu
        go_wp2_with fail
        have bA : Below wr.heap.size wr (wr.alloc (.cells #[.int .u8 (v j).lv, .int .u8 (v j).vo, .int .u8 (v j).lf, .int .u8 (v j).rt] 32)) := (Below.refl _ _).alloc (Nat.le_refl _) _
        have hs : Blk (wr.alloc (.cells #[.int .u8 (v j).lv, .int .u8 (v j).vo, .int .u8 (v j).lf, .int .u8 (v j).rt] 32)) wr.heap.size 32 (vcC (v j)) := Blk.new wr _ _
        have HJ := Lib.hid (HI.out.below bA)
        have HS := Lib.hid hs
        clear bA hs q0 q1 q2 q3 HI
        generalize World.alloc _ _ = wa at *
        obtain ⟨g, hg⟩ : ∃ g, wr.heap.size = g := ⟨_, rfl⟩
        rw [hg] at HS
        simp only [hg]
        clear hg
        refine (unheard_any (v j) _).mono ?_
        rw [HX.out]
        rintro e w2 ⟨rfl, b2⟩
        have HK := Lib.hid (HJ.out.below b2)
        have hs2 := HS.out.below b2 HS.out.lt
        clear b2 HJ HS
        cases u with
        | true =>
          have HY := Lib.hid (HK.out.skip HX.out)
          clear hs2
          go_wp2_with fail
          go_roundw
          case rel => exact ⟨m, j + 1, by omega, rfl, by go_num, HY.out⟩
          case measure => simp [intOf]; omega
        | false =>
          have s0 : w2.cell? ⟨g, 0, none⟩ = some (.int .u8 (v j).lv) := hs2.cell 0
          have s1 : w2.cell? ⟨g, 1, none⟩ = some (.int .u8 (v j).vo) := hs2.cell 1
          have s2 : w2.cell? ⟨g, 2, none⟩ = some (.int .u8 (v j).lf) := hs2.cell 2
          have s3 : w2.cell? ⟨g, 3, none⟩ = some (.int .u8 (v j).rt) := hs2.cell 3
          obtain ⟨⟨u0, k0⟩, f0⟩ := HK.out.some (m * 4) (by omega)
          obtain ⟨⟨u1, k1⟩, f1⟩ := HK.out.some (m * 4 + 1) (by omega)
          obtain ⟨⟨u2, k2⟩, f2⟩ := HK.out.some (m * 4 + 2) (by omega)
          obtain ⟨⟨u3, k3⟩, f3⟩ := HK.out.some (m * 4 + 3) (by omega)
          have HY := Lib.hid (HK.out.put HX.out hmj hlt (HO.out j hlt))
          clear hs2
          go_wp2_with fail
          go_roundw
          case rel => exact ⟨m + 1, j + 1, by omega, by go_num, by go_num, HY.out⟩
          case measure => simp [intOf]; omega
      · have i3 : ¬ (j : Int) < 6 := by omega
        have hj : j = 6 := by omega
        subst hj
        obtain ⟨u, h1, h2, h3, h4, h5⟩ := hI
        have hcl := fun ty => clear_vs (ty := ty) h1 (vsC_size u 6) m (6 - m) hm6
        have HV : Hid (VR (wr.setCells b (m * 4) (List.replicate ((6 - m) * 4) (.int .u8 0))) (some ⟨b, 0, none⟩) m u) := Lib.hid ⟨fun i hi => by
          obtain ⟨ad, ea, hl, hc⟩ := (vs_vr h1 (by omega) h2 : VR wr _ 6 u).1 i (by omega)
          cases ea
          refine ⟨_, rfl, ?_, fun q hq => ?_⟩
          · have := (kp_setCells (b := b) (List.replicate ((6 - m) * 4) (.int .u8 0)) (m * 4) wr (Kp.refl [b] wr) (.inl (by simp))).size
            exact Nat.lt_of_lt_of_le hl this
          · rw [World.cell?_setCells_out]
            · exact hc q hq
            · intro _ _
              left
              have e : (⟨b, 0, none⟩ : Addr).add (i * 4 + q) = ⟨b, i * 4 + q, none⟩ := add_zero_block b _
              rw [e]
              show i * 4 + q < m * 4
              omega, fun i hi => h2 i (by omega)⟩
        have HK := Lib.hid (kp_setCells (b := b) (List.replicate ((6 - m) * 4) (.int .u8 0)) (m * 4) wr h5 (.inl (by simp)))
        have H4 := Lib.hid h4
        clear h1 h2 h3 h4 h5
        go_wp2_with fail
        go_ret
        exact ⟨m, Nat.le_of_lt hm6, rfl, u, HV.out, H4.out, HK.out⟩
  · have HU := Lib.hid hb
    clear hb
    go_wp2_with fail
    go_ret
    exact ⟨6, v, Nat.le_refl 6, rfl, (vs_vr H.out (Nat.le_refl 6) HO.out).keep HB.out, same_all HU.out, Kp.of_below HB.out⟩
end Go.Proofs.YtaamfcbpelbboaaDoor
namespace Go.Proofs.YtaamfcbpelbboaaDoor
open Go.RowKit
set_option linter.unusedVariables false
set_option linter.unusedSimpArgs false
set_option maxRecDepth 100000
theorem storeV (v : Nat → Vc) (W : World) : (storeCells ⟨W.heap.size, 0, none⟩ (vsC v 6).toList).run Tryd.prog (W.alloc (.cells (vsC (fun _ => Vc.zero) 6) 68)) = .ok () (W.alloc (.cells (vsC v 6) 68)) :=
  run_storeCells_new (P := Tryd.prog) W 68 (vsC (fun _ => Vc.zero) 6) (vsC v 6) (by rw [vsC_size]; kernel_rfl) (by rw [vsC_size, vsC_size]) (by rw [Array.all_eq_true]; intro i hi; exact vsC_one v 6 _ (by simp))
/-- What all voices make that are heard. -/
def ofL (v : Nat → Vc) (m : Int) : Int := sumTo (fun i => hrd (fun x => x.left m) (v i)) 6
def ofR (v : Nat → Vc) (m : Int) : Int := sumTo (fun i => hrd (fun x => x.right m) (v i)) 6
theorem vc_ok_of {w : World} {g : Nat} {ns : Nat → Nat} {s : Sg} (h : PG w g ns s) (i : Nat) (hi : i < 6) : (s.vc i).ok := by
  unfold Sg.vc
  split
  · exact Cw.vc_ok (h.2.1 i hi).2 (h.2.2.2.2.2.2 i)
  · unfold Vc.ok Vc.zero; decide
theorem of_any {w : World} (hT : TabAt w 0 4 pw) (hD : TabAt w 1 4 dp) {g : Nat} {ns : Nat → Nat} {s : Sg} (h : PG w g ns s) :
    Calls Tryd.prog 22 #[.pointer (some ⟨g, 0, none⟩)] w fun e w' => e = .returned (.tuple #[.int .i64 (ofL s.vc (s.lo / 16)), .int .i64 (ofR s.vc (s.lo % 16))]) ∧ Below w.heap.size w w' := by
  have H := Lib.hid h
  have HT := Lib.hid hT
  have hz := zeroV
  have hst := storeV s.vc
  have hsz := vsC_size s.vc 6
  obtain ⟨a0, a1⟩ := h.2.2.2.2.1
  obtain ⟨ml, hml⟩ : ∃ x, s.lo / 16 = x := ⟨_, rfl⟩
  obtain ⟨mr, hmr⟩ : ∃ x, s.lo % 16 = x := ⟨_, rfl⟩
  have HM := Lib.hid (show (0 ≤ ml ∧ ml ≤ 255) ∧ (0 ≤ mr ∧ mr ≤ 255) by omega)
  have HE := Lib.hid (And.intro hml hmr)
  rw [hml, hmr]
  clear h hT a0 a1 hml hmr
  go_enter Tryd.func22, Tryd.ntmps22
  go_wp2_with fail
  refine (voices_any H.out hD).mono ?_
  rintro e w1 ⟨rfl, b1⟩
  have HB1 := Lib.hid b1
  clear b1 hD
  go_wp2_with fail
  have bA : Below w.heap.size w (w1.alloc (.cells (vsC s.vc 6) 68)) := HB1.out.alloc HB1.out.size _
  have hb : Blk (w1.alloc (.cells (vsC s.vc 6) 68)) w1.heap.size 68 (vsC s.vc 6) := Blk.new w1 _ _
  have HA := Lib.hid (And.intro hb bA)
  have HG := Lib.hid HB1.out.size
  clear hb bA hst hz hsz
  generalize World.alloc _ _ = wa at *
  obtain ⟨b, hbb⟩ : ∃ b, w1.heap.size = b := ⟨_, rfl⟩
  rw [hbb] at HA HG
  simp only [hbb]
  clear hbb
  refine (pmain_any (H.out.below HA.out.2)).mono ?_
  rw [HE.out.1, HE.out.2]
  rintro e w2 ⟨rfl, b2⟩
  have HC := Lib.hid (And.intro (HA.out.1.below b2 HA.out.1.lt) (Below.trans HA.out.2 (b2.mono HA.out.2.size)))
  clear b2 HA
  go_wp2_with fail
  refine (del_any HC.out.1 (fun i hi => vc_ok_of H.out i hi)).mono ?_
  rintro e w3 ⟨m, u, hm, rfl, hv, hs, hk⟩
  have HV := Lib.hid hv
  have HS := Lib.hid hs
  have HK := Lib.hid (hk.onto HC.out.2 HC.out.2.size (by intro x hx; simp at hx; rw [hx]; exact HG.out))
  clear hv hs hk
  go_wp2_with fail
  refine (all_any (HT.out.below HK.out) HV.out (by omega) ml mr HM.out.1.1 HM.out.1.2 HM.out.2.1 HM.out.2.2).mono ?_
  rw [show lefts u ml m = ofL s.vc ml from HS.out (fun x => x.left ml), show rights u mr m = ofR s.vc mr from HS.out (fun x => x.right mr)]
  rintro e w4 ⟨rfl, b4⟩
  have HZ := Lib.hid (Below.trans HK.out (b4.mono HK.out.size))
  clear b4
  go_wp2_with fail
  go_ret2
  exact ⟨rfl, HZ.out⟩
theorem of_nil {w : World} (hT : TabAt w 0 4 pw) :
    Calls Tryd.prog 22 #[.pointer none] w fun e w' => e = .returned (.tuple #[.int .i64 0, .int .i64 0]) ∧ Below w.heap.size w w' := by
  have HT := Lib.hid hT
  have hz := zeroV
  have hst := storeV (fun _ => Vc.zero)
  have hsz := vsC_size (fun _ => Vc.zero) 6
  have z0 : ofL (fun _ => Vc.zero) 0 = 0 := by decide +kernel
  have z1 : ofR (fun _ => Vc.zero) 0 = 0 := by decide +kernel
  have HZ0 := Lib.hid (And.intro z0 z1)
  clear z0 z1 hT
  go_enter Tryd.func22, Tryd.ntmps22
  go_wp2_with fail
  refine (voices_nil _).mono ?_
  rintro e w1 ⟨rfl, b1⟩
  have HB1 := Lib.hid b1
  clear b1
  go_wp2_with fail
  have bA : Below w.heap.size w (w1.alloc (.cells (vsC (fun _ => Vc.zero) 6) 68)) := HB1.out.alloc HB1.out.size _
  have hb : Blk (w1.alloc (.cells (vsC (fun _ => Vc.zero) 6) 68)) w1.heap.size 68 (vsC (fun _ => Vc.zero) 6) := Blk.new w1 _ _
  have HA := Lib.hid (And.intro hb bA)
  have HG := Lib.hid HB1.out.size
  clear hb bA hst hz hsz
  generalize World.alloc _ _ = wa at *
  obtain ⟨b, hbb⟩ : ∃ b, w1.heap.size = b := ⟨_, rfl⟩
  rw [hbb] at HA HG
  simp only [hbb]
  clear hbb
  refine (pmain_nil _).mono ?_
  rintro e w2 ⟨rfl, rfl⟩
  have HC := HA
  go_wp2_with fail
  refine (del_any HC.out.1 (fun _ _ => by unfold Vc.ok Vc.zero; decide)).mono ?_
  rintro e w3 ⟨m, u, hm, rfl, hv, hs, hk⟩
  have HV := Lib.hid hv
  have HS := Lib.hid hs
  have HK := Lib.hid (hk.onto HC.out.2 HC.out.2.size (by intro x hx; simp at hx; rw [hx]; exact HG.out))
  clear hv hs hk
  go_wp2_with fail
  refine (all_any (HT.out.below HK.out) HV.out (by omega) 0 0 (by omega) (by omega) (by omega) (by omega)).mono ?_
  rw [show lefts u 0 m = ofL (fun _ => Vc.zero) 0 from HS.out (fun x => x.left 0), show rights u 0 m = ofR (fun _ => Vc.zero) 0 from HS.out (fun x => x.right 0), HZ0.out.1, HZ0.out.2]
  rintro e w4 ⟨rfl, b4⟩
  have HZ := Lib.hid (Below.trans HK.out (b4.mono HK.out.size))
  clear b4
  go_wp2_with fail
  go_ret2
  exact ⟨rfl, HZ.out⟩
end Go.Proofs.YtaamfcbpelbboaaDoor
