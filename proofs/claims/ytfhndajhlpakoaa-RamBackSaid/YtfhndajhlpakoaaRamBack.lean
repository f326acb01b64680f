/-
  For every input RamBack returns true, and each argument reads behind the call as it read before. No conditions.
-/
import Derived.Test.YtfhndajhlpakoaaRows
import Derived.Test.YtfhndajhlpakoaaG3
import Derived.Test.YtfhndajhlpakoaaRam7
import Derived.Test.YtfhndajhlpakoaaRam8
import Derived.Test.YtfhndajhlpakoaaRam9
import Derived.Test.YtfhndajhlpakoaaCart16
import Derived.Test.YtfhndajhlpakoaaG14
namespace Go.Proofs.Ytfhndajhlpakoaa.ramBack
open Go.ChangeShapes Go.WideShapes Go.ChangeAt Go.RowKit
open Go.ChangeMaps (open_string)

set_option linter.unusedVariables false
set_option linter.unusedSimpArgs false
theorem first_all {a b : Nat → Int} {r : Int} (h : FirstD a b 8192 r) (e : ∀ i, i < 8192 → a i = b i) : r = -1 := by
  rcases h with ⟨h, _⟩ | ⟨k, hk, rfl, hne, h⟩
  · exact h
  · exact absurd (e k hk) hne
theorem first_one {a b : Nat → Int} {r : Int} {j : Nat} (h : FirstD a b 8192 r) (hj : j < 8192) (e : ∀ i, i ≠ j → a i = b i) (hne : a j ≠ b j) : r = j := by
  rcases h with ⟨_, h⟩ | ⟨k, hk, rfl, hk2, h⟩
  · exact absurd (h j hj) hne
  · by_cases hkj : k = j
    · rw [hkj]
    · exact absurd (e k hkj) hk2
theorem same_t {w : World} {u v : Value} {p q : Nat → Int} (hu : RA w u p) (hv : RA w v q) (h : ∀ i, i < 8192 → p i = q i) :
    Calls Try.prog 22 #[u, v] w fun e w' => e = .returned (.bool true) ∧ Below w.heap.size w w' := by
  refine (rsame_any hu hv).mono ?_
  rintro e w' ⟨⟨r, rfl, hr⟩, hb⟩
  obtain rfl := first_all hr h
  exact ⟨rfl, hb⟩
theorem same_f {w : World} {u v : Value} {p q : Nat → Int} (hu : RA w u p) (hv : RA w v q) {j : Nat} (hj : j < 8192) (h : ∀ i, i ≠ j → p i = q i) (hne : p j ≠ q j) :
    Calls Try.prog 22 #[u, v] w fun e w' => e = .returned (.bool false) ∧ Below w.heap.size w w' := by
  refine (rsame_any hu hv).mono ?_
  rintro e w' ⟨⟨r, rfl, hr⟩, hb⟩
  obtain rfl := first_one hr hj h hne
  refine ⟨?_, hb⟩
  unfold SameB
  rw [decide_eq_false (by omega)]
theorem oth_t {w : World} {u v : Value} {p q : Nat → Int} (hu : RA w u p) (hv : RA w v q) (h : ∀ i, i < 8192 → p i = q i) :
    Calls Try.prog 20 #[u, v] w fun e w' => e = .returned (.int .i64 (-1)) ∧ Below w.heap.size w w' := by
  refine (other_any hu hv).mono ?_
  rintro e w' ⟨⟨r, rfl, hr⟩, hb⟩
  obtain rfl := first_all hr h
  exact ⟨rfl, hb⟩
theorem oth_f {w : World} {u v : Value} {p q : Nat → Int} (hu : RA w u p) (hv : RA w v q) {j : Nat} (hj : j < 8192) (h : ∀ i, i ≠ j → p i = q i) (hne : p j ≠ q j) :
    Calls Try.prog 20 #[u, v] w fun e w' => e = .returned (.int .i64 (j : Int)) ∧ Below w.heap.size w w' := by
  refine (other_any hu hv).mono ?_
  rintro e w' ⟨⟨r, rfl, hr⟩, hb⟩
  obtain rfl := first_one hr hj h hne
  exact ⟨rfl, hb⟩
theorem rd_lt {w : World} {g : Nat} {mb : Option Nat} {f : Nat → Int} (h : RD w g mb f) : g < w.heap.size ∧ ∀ b, mb = some b → b < w.heap.size := by
  refine ⟨h.1.lt, fun b e => ?_⟩
  have hm := h.2
  rw [e] at hm
  obtain ⟨D, ho, _⟩ := hm
  exact ho.lt
theorem fws_wf {f : Nat → Int} {ps : Nat → Int × Int} {n : Nat} (hf : ∀ i, (Lit.int .u8 (f i)).wf = true) (hp : ∀ i, i < n → (Lit.int .u8 (ps i).2).wf = true) : ∀ k, k ≤ n → ∀ i, (Lit.int .u8 (fws f ps k i)).wf = true
  | 0, _, i => hf i
  | k + 1, hk, i => by
    show (Lit.int .u8 (fw (fws f ps k) (ps k).1 (ps k).2 i)).wf = true
    unfold fw
    split
    · exact hp k (by omega)
    · exact fws_wf hf hp k (by omega) i
set_option maxRecDepth 100000 in
set_option maxHeartbeats 4000000 in
theorem walk {W : World} (A : Option Addr) (n c : Nat) (ps : Nat → Int × Int) (hnc : n ≤ c) (hc : c ≤ maxLen) (R : I2Row W .u16 .u8 A n ps) (x : Int × Int) (wx0 : (Lit.int .u16 x.1).wf = true) (wx1 : (Lit.int .u8 x.2).wf = true) :
    Calls Try.prog 5 #[.slice A n c, .agg #[.int .u16 x.1, .int .u8 x.2]] W fun e w' => e = .returned (.bool true) ∧ Below W.heap.size W w' := by
  obtain ⟨a, b⟩ := x
  simp only at wx0 wx1 ⊢
  obtain ⟨a0, a1⟩ := bounds_u16 wx0
  unfold maxLen at hc
  have hX0 := Blk.new W 49 #[.int .u16 a, .int .u8 b]
  have hB0 : Below W.heap.size W (W.alloc (.cells #[.int .u16 a, .int .u8 b] 49)) := (Below.refl _ _).alloc (Nat.le_refl _) _
  have HX0 := Lib.hid hX0
  have HB0 := Lib.hid hB0
  have HR := Lib.hid R
  have hpw : ∀ i, i < n → (Lit.int .u8 (ps i).2).wf = true := fun i hi => by obtain ⟨_, _, _, _, _, _, h⟩ := R i hi; exact h
  have HPW := Lib.hid hpw
  clear R hX0 hB0 hpw wx0 wx1
  by_cases h2 : 200 < n
  · have i2 : (200 : Int) < n := by omega
    go_enter Try.func5, Try.ntmps5
    go_wp2_with fail
    refine (liveR_any _).mono ?_
    rintro e w0 ⟨rfl, k0⟩
    have hB1 := HB0.out.trans (k0.mono HB0.out.size)
    go_wp2_with fail
    go_ret
    exact ⟨rfl, hB1⟩
  have i2 : ¬ (200 : Int) < n := by omega
  have hmk0 := fun w => make_bytes 8192 (by omega) w
  have hmk : ∀ w : World, (Instr.makeSlice 23 (.int .i64 8192) (.int .i64 8192)).run Try.prog w = .ok (.slice (some ⟨w.heap.size, 0, none⟩) 8192 8192) (w.alloc (.cells (Array.replicate 8192 (.int .u8 0)) 5)) := hmk0
  clear hmk0
  go_enter Try.func5, Try.ntmps5
  go_wp2_with fail
  refine (liveR_any _).mono ?_
  rintro e w0 ⟨rfl, k0⟩
  have hB1 := HB0.out.trans (k0.mono HB0.out.size)
  have hX1 := HX0.out.below k0 HX0.out.lt
  go_wp2_with fail
  refine (rnew_any _).mono ?_
  rintro e w1 ⟨rfl, h1, k1⟩
  have hs1 := hB1.size
  have hB2 := hB1.trans (k1.mono hB1.size)
  have hX2 := hX1.below k1 hX1.lt
  have hgg : W.heap.size ≤ w0.heap.size := hs1
  have hXl := hX2.lt
  generalize w0.heap.size = g at *
  have kP : Below w1.heap.size w1 (w1.alloc (.cells (Array.replicate 8192 (.int .u8 0)) 5)) := (Below.refl _ _).alloc (Nat.le_refl _) _
  have hB3 := hB2.trans (kP.mono hB2.size)
  have hBo : Both (w1.alloc (.cells (Array.replicate 8192 (.int .u8 0)) 5)) g w1.heap.size none (fun _ => 0) := ⟨h1.keep kP, List.replicate 8192 (.int .u8 0), by rw [← Array.toList_replicate]; exact Blk.new _ _ _, (BArr.zero 8192).2⟩
  have hX3 := hX2.below kP hX2.lt
  have hs2 := hB2.size
  have gnX : W.heap.size ≠ g := fun e => by rw [e] at hX2; exact hX2.ne_ h1.1 (by decide) rfl
  have HBo := Lib.hid hBo
  have HX3 := Lib.hid hX3
  have HB3 := Lib.hid hB3
  clear hBo hX3 hB3 hX2 hX1 h1 k0 k1 kP hB1 hB2
  go_wp2_with fail
  refine (writes_any (c := c) HBo.out HB3.out HR.out ⟨hgg, hs2, fun b e => by cases e⟩ (by omega)).mono ?_
  rintro e w2 ⟨rfl, hB4, k4, mb, ⟨hRD, _⟩, hgr⟩
  obtain ⟨F, hF⟩ : ∃ F, fws (fun _ => 0) ps n = F := ⟨_, rfl⟩
  have hFw : ∀ i, (Lit.int .u8 (F i)).wf = true := fun i => by rw [← hF]; exact fws_wf (fun _ => by decide) HPW.out n (Nat.le_refl _) i
  rw [hF] at hRD
  have hX4 := HX3.out.kp k4 (by simp; omega)
  have HM := Lib.hid hRD
  have HX4 := Lib.hid hX4
  have HFW := Lib.hid hFw
  have hs4 := hB4.size
  clear hRD hX4 hFw hF k4 hgr HBo HX3 HB3
  go_wp2_with fail
  refine (rpieces_any (f := F) (.inr ⟨g, mb, rfl, HM.out⟩) (fun i _ => HFW.out i)).mono ?_
  rintro e w3 ⟨⟨v, qs, Bq, rfl, q1, q2⟩, k3⟩
  obtain ⟨Aq, cq, rfl, Rq⟩ := prow_any q1 q2
  have hlen : (runs F 8192).length ≤ 8192 := runs_len F 8192
  have hB5 := hB4.trans (k3.mono hs4)
  have HM5 := Lib.hid (HM.out.keep k3)
  have HX5 := Lib.hid (HX4.out.below k3 HX4.out.lt)
  have HRq := Lib.hid Rq
  have HQ2 := Lib.hid q2
  have hs5 := hB5.size
  clear q1 q2 Rq k3 hB4 HM HX4
  go_wp2_with fail
  refine (of_any Aq _ cq qs _ (by unfold maxLen; omega) HRq.out).mono ?_
  rintro e w4 ⟨k5, hres⟩
  have hB6 := hB5.trans (k5.mono hs5)
  have HM6 := Lib.hid (HM5.out.keep k5)
  have HX6 := Lib.hid (HX5.out.below k5 HX5.out.lt)
  have hs6 := hB6.size
  have hml := rd_lt HM5.out
  have hXl5 := HX5.out.lt
  rcases hres with ⟨j2, hj2, hbad2, hgd2, rfl⟩ | ⟨_, g2, mb2, rfl, hg2, hmb2, hRD⟩
  · exact absurd (runs_good HQ2.out j2 hj2) hbad2
  have hRN : RD w4 g2 mb2 F := ⟨hRD.1, hRD.2.congr fun i hi => (laid_runs HQ2.out i hi).symm⟩
  have kF : Below w4.heap.size w4 (w4.alloc (.cells #[.int .i64 0, .int .i64 0] 30)) := (Below.refl _ _).alloc (Nat.le_refl _) _
  have HN7 := Lib.hid (hRN.keep kF)
  have HM7 := Lib.hid (HM6.out.keep kF)
  have HX7 := Lib.hid (HX6.out.below kF HX6.out.lt)
  have hB7 := hB6.trans (kF.mono hs6)
  have HB7 := Lib.hid hB7
  have HMB := Lib.hid hmb2
  clear hRD hRN kF k5 HM5 HX5 HM6 HX6 hB5 hB6 hB7 hmb2 HRq HQ2
  have hs7 := HB7.out.size
  go_wp2_with fail
  generalize w4.alloc (.cells #[.int .i64 0, .int .i64 0] 30) = w5 at *
  refine (same_t (p := F) (q := F) (.inr ⟨g, mb, rfl, HM7.out⟩) (.inr ⟨g2, mb2, rfl, HN7.out⟩) (fun _ _ => rfl)).mono ?_
  rintro e w6 ⟨rfl, k6⟩
  have HB8 := Lib.hid (HB7.out.trans (k6.mono hs7))
  have HM8 := Lib.hid (HM7.out.keep k6)
  have HN8 := Lib.hid (HN7.out.keep k6)
  have HX8 := Lib.hid (HX7.out.below k6 HX7.out.lt)
  have hs8 := HB8.out.size
  clear k6 HB7 HM7 HN7 HX7
  go_wp2_with fail
  refine (oth_t (p := F) (q := F) (.inr ⟨g, mb, rfl, HM8.out⟩) (.inr ⟨g2, mb2, rfl, HN8.out⟩) (fun _ _ => rfl)).mono ?_
  rintro e w7 ⟨rfl, k7⟩
  have HB9 := Lib.hid (HB8.out.trans (k7.mono hs8))
  have HM9 := Lib.hid (HM8.out.keep k7)
  have HN9 := Lib.hid (HN8.out.keep k7)
  have HX9 := Lib.hid (HX8.out.below k7 HX8.out.lt)
  have hs9 := HB9.out.size
  have x0 : w7.cell? ⟨W.heap.size, 0, none⟩ = some (.int .u16 a) := HX9.out.cell 0
  have x1 : w7.cell? ⟨W.heap.size, 1, none⟩ = some (.int .u8 b) := HX9.out.cell 1
  clear k7 HB8 HM8 HN8 HX8
  obtain ⟨j, hj⟩ := Int.eq_ofNat_of_zero_le (show 0 ≤ a % 8192 by omega)
  have hj8 : j < 8192 := by omega
  have HJ : Hid ((a % 8192).toNat = j) := Lib.hid (by omega)
  have tm : a.tmod 8192 = j := by rw [Int.tmod_eq_emod_of_nonneg a0]; exact hj
  have tw : IntKind.i64.wrap (j : Int) = j := IntWalk.i64_in _ (by omega)
  have ta : IntKind.i64.wrap a = a := IntWalk.i64_in _ (by omega)
  obtain ⟨y, hy⟩ : ∃ y, F j = y := ⟨_, rfl⟩
  have HY := Lib.hid hy
  clear hy
  have KR : ∀ w' : World, Below w7.drew.heap.size w7.drew w' → Hid (Below W.heap.size W w' ∧ RD w' g mb F ∧ RD w' g2 mb2 F ∧ Blk w' W.heap.size 49 #[.int .u16 a, .int .u8 b]) := fun w' k =>
    Lib.hid ⟨HB9.out.drew.trans (k.mono hs9), RD.keep (w := w7.drew) (by exact HM9.out) k, RD.keep (w := w7.drew) (by exact HN9.out) k, HX9.out.later k rfl⟩
  have KRH := Lib.hid KR
  clear KR
  by_cases hyb : y = b
  · have hne : (y != b) = false := by rw [hyb]; simp
    have HYB := Lib.hid hyb
    clear hyb
    have hE : ∀ i, i < 8192 → F i = fw F a b i := fun i hi => by
      unfold fw
      rw [HJ.out]
      split
      · rename_i e; rw [e, HY.out, HYB.out]
      · rfl
    have HEQ := Lib.hid hE
    clear hE
    go_wp2_with fail
    refine rg_begin (S := fun w' => w'.cell? ⟨W.heap.size, 0, none⟩ = some (.int .u16 a) ∧ w'.cell? ⟨W.heap.size, 1, none⟩ = some (.int .u8 b)) 8 #[false, false, false, false, false, false, false, false] (by kernel_rfl) (by kernel_rfl) (by kernel_rfl) ?_ (fun hHeld => ?_)
    · exact ⟨x0, x1⟩
    refine rg_take (i := 0) (d := some 42) (l := #[true, false, false, false, false, false, false, false]) (fuel := 7) (v := ?_) rfl (by kernel_rfl) (by kernel_rfl) (by kernel_rfl) (by kernel_rfl) (by kernel_rfl) (fun _ _ _ h => h) (by kernel_rfl) ?_ (by assumption) ?_
    rotate_left 1
    · (intro wS hSw; (try dsimp only at hSw); go_simp; try with_reducible rfl)
    try simp only [Act.put, List.setIfInBounds_toArray, List.set_cons_zero, List.set_cons_succ]
    refine rg_take (i := 1) (d := some 43) (l := #[true, true, false, false, false, false, false, false]) (fuel := 6) (v := ?_) rfl (by kernel_rfl) (by kernel_rfl) (by kernel_rfl) (by kernel_rfl) (by kernel_rfl) (fun _ _ _ h => h) (by kernel_rfl) ?_ (by assumption) ?_
    rotate_left 1
    · (intro wS hSw; (try dsimp only at hSw); go_simp; try with_reducible rfl)
    try simp only [Act.put, List.setIfInBounds_toArray, List.set_cons_zero, List.set_cons_succ]
    refine rg_take (i := 2) (d := some 44) (l := #[true, true, true, false, false, false, false, false]) (fuel := 5) (v := ?_) rfl (by kernel_rfl) (by kernel_rfl) (by kernel_rfl) (by kernel_rfl) (by kernel_rfl) (fun _ _ _ h => h) (by kernel_rfl) ?_ (by assumption) ?_
    rotate_left 1
    · (intro wS hSw; (try dsimp only at hSw); go_simp; try with_reducible rfl)
    try simp only [Act.put, List.setIfInBounds_toArray, List.set_cons_zero, List.set_cons_succ]
    refine rg_take (i := 4) (d := some 46) (l := #[true, true, true, false, true, false, false, false]) (fuel := 4) (v := ?_) rfl (by kernel_rfl) (by kernel_rfl) (by kernel_rfl) (by kernel_rfl) (by kernel_rfl) (fun _ _ _ h => h) (by kernel_rfl) ?_ (by assumption) ?_
    rotate_left 1
    · (intro wS hSw; (try dsimp only at hSw); go_simp; try with_reducible rfl)
    try simp only [Act.put, List.setIfInBounds_toArray, List.set_cons_zero, List.set_cons_succ]
    refine rg_take (i := 5) (d := some 47) (l := #[true, true, true, false, true, true, false, false]) (fuel := 3) (v := ?_) rfl (by kernel_rfl) (by kernel_rfl) (by kernel_rfl) (by kernel_rfl) (by kernel_rfl) (fun _ _ _ h => h) (by kernel_rfl) ?_ (by assumption) ?_
    rotate_left 1
    · (intro wS hSw; (try dsimp only at hSw); go_simp; try with_reducible rfl)
    try simp only [Act.put, List.setIfInBounds_toArray, List.set_cons_zero, List.set_cons_succ]
    refine rg_next (i := 3) (l := #[true, true, true, true, true, true, false, false]) (fuel := 2) (by kernel_rfl) rfl (by kernel_rfl) (by kernel_rfl) (fun K hK => ?_)
    go_simp
    (go_at_call 26)
    refine (rread_any (w := w7.drew) (by exact HM9.out) a a0 a1).mono ?_
    rw [HJ.out, HY.out]
    rintro e w8 ⟨rfl, k8⟩
    have K8 := Lib.hid (KRH.out w8 k8)
    clear k8
    have z0 : w8.cell? ⟨W.heap.size, 0, none⟩ = some (.int .u16 a) := K8.out.2.2.2.cell 0
    have z1 : w8.cell? ⟨W.heap.size, 1, none⟩ = some (.int .u8 b) := K8.out.2.2.2.cell 1
    first | (refine hK.out _ _ ?_ (fun hHeld => ?_)) | (go_wp2_with fail; refine hK.out _ _ ?_ (fun hHeld => ?_))
    · (try dsimp only); exact ⟨z0, z1⟩
    clear hK K
    try simp only [Act.put, List.setIfInBounds_toArray, List.set_cons_zero, List.set_cons_succ]
    refine rg_take (i := 6) (d := some 48) (l := #[true, true, true, true, true, true, true, false]) (fuel := 1) (v := ?_) rfl (by kernel_rfl) (by kernel_rfl) (by kernel_rfl) (by kernel_rfl) (by kernel_rfl) (fun _ _ _ h => h) (by kernel_rfl) ?_ (by assumption) ?_
    rotate_left 1
    · (intro wS hSw; (try dsimp only at hSw); go_simp; try with_reducible rfl)
    try simp only [Act.put, List.setIfInBounds_toArray, List.set_cons_zero, List.set_cons_succ]
    refine rg_take (i := 7) (d := some 9) (l := #[true, true, true, true, true, true, true, true]) (fuel := 0) (v := ?_) rfl (by kernel_rfl) (by kernel_rfl) (by kernel_rfl) (by kernel_rfl) (by kernel_rfl) (fun _ _ _ h => h) (by kernel_rfl) ?_ (by assumption) ?_
    rotate_left 1
    · (intro wS hSw; (try dsimp only at hSw); go_simp; try with_reducible rfl)
    try simp only [Act.put, List.setIfInBounds_toArray, List.set_cons_zero, List.set_cons_succ]
    refine wpAnyH_done (by kernel_rfl) ?_ _
    go_wp2_with fail
    refine (rwrite_any K8.out.2.2.1 a b a0 a1).mono ?_
    rintro e w9 ⟨rfl, mb9, h9, k9, _⟩
    have no1 : g ∉ g2 :: mb2.toList := by
      intro hx
      rcases List.mem_cons.1 hx with e | hx
      · omega
      · have := HMB.out g (by simpa using hx); omega
    have no2 : ∀ z, mb = some z → z ∉ g2 :: mb2.toList := fun z ez hx => by
      have h1 := hml.2 z ez
      rcases List.mem_cons.1 hx with e | hx
      · omega
      · have := HMB.out z (by simpa using hx); omega
    have no3 : W.heap.size ∉ g2 :: mb2.toList := by
      intro hx
      rcases List.mem_cons.1 hx with e | hx
      · omega
      · have := HMB.out _ (by simpa using hx); omega
    have no4 : ∀ z ∈ g2 :: mb2.toList, W.heap.size ≤ z := by
      intro z hx
      rcases List.mem_cons.1 hx with e | hx
      · omega
      · have := HMB.out z (by simpa using hx); omega
    have hs8 := K8.out.1.size
    have HB10 := Lib.hid (k9.onto K8.out.1 hs8 no4)
    have HM10 := Lib.hid (K8.out.2.1.kp k9 no1 no2)
    have HN10 := Lib.hid h9
    have HX10 := Lib.hid (K8.out.2.2.2.kp k9 no3)
    have y0 : w9.cell? ⟨W.heap.size, 0, none⟩ = some (.int .u16 a) := HX10.out.cell 0
    have hs10 := HB10.out.size
    clear k9 h9 no1 no2 no3 no4 HMB
    go_wp2_with fail
    refine rg_begin (S := fun _ => True) 20 #[false, false, false, false, false, false, false, false, false, false, false, false, false, false, false, false, false, false, false, false] (by kernel_rfl) (by kernel_rfl) (by kernel_rfl) ?_ (fun hHeld => ?_)
    · trivial
    refine rg_take (i := 0) (d := some 55) (l := #[true, false, false, false, false, false, false, false, false, false, false, false, false, false, false, false, false, false, false, false]) (fuel := 19) (v := ?_) rfl (by kernel_rfl) (by kernel_rfl) (by kernel_rfl) (by kernel_rfl) (by kernel_rfl) (fun _ _ _ h => h) (by kernel_rfl) ?_ (by assumption) ?_
    rotate_left 1
    · (intro wS hSw; (try dsimp only at hSw); go_simp; try with_reducible rfl)
    try simp only [Act.put, List.setIfInBounds_toArray, List.set_cons_zero, List.set_cons_succ]
    refine rg_take (i := 1) (d := some 56) (l := #[true, true, false, false, false, false, false, false, false, false, false, false, false, false, false, false, false, false, false, false]) (fuel := 18) (v := ?_) rfl (by kernel_rfl) (by kernel_rfl) (by kernel_rfl) (by kernel_rfl) (by kernel_rfl) (fun _ _ _ h => h) (by kernel_rfl) ?_ (by assumption) ?_
    rotate_left 1
    · (intro wS hSw; (try dsimp only at hSw); go_simp; try with_reducible rfl)
    try simp only [Act.put, List.setIfInBounds_toArray, List.set_cons_zero, List.set_cons_succ]
    refine rg_take (i := 3) (d := some 58) (l := #[true, true, false, true, false, false, false, false, false, false, false, false, false, false, false, false, false, false, false, false]) (fuel := 17) (v := ?_) rfl (by kernel_rfl) (by kernel_rfl) (by kernel_rfl) (by kernel_rfl) (by kernel_rfl) (fun _ _ _ h => h) (by kernel_rfl) ?_ (by assumption) ?_
    rotate_left 1
    · (intro wS hSw; (try dsimp only at hSw); go_simp; try with_reducible rfl)
    try simp only [Act.put, List.setIfInBounds_toArray, List.set_cons_zero, List.set_cons_succ]
    refine rg_next (i := 2) (l := #[true, true, true, true, false, false, false, false, false, false, false, false, false, false, false, false, false, false, false, false]) (fuel := 16) (by kernel_rfl) rfl (by kernel_rfl) (by kernel_rfl) (fun K hK => ?_)
    go_simp
    (go_at_call 22)
    refine (same_t (w := w9.drew) (p := F) (q := fw F a b) (.inr ⟨g, mb, rfl, by exact HM10.out⟩) (.inr ⟨g2, mb9, rfl, by exact HN10.out⟩) HEQ.out).mono ?_
    rintro e w10 ⟨rfl, k10⟩
    have K10 := Lib.hid (HB10.out.drew.trans (k10.mono hs10))
    clear k10
    first | (refine hK.out _ _ ?_ (fun hHeld => ?_)) | (go_wp2_with fail; refine hK.out _ _ ?_ (fun hHeld => ?_))
    · (try dsimp only); all_goals trivial
    clear hK K
    try simp only [Act.put, List.setIfInBounds_toArray, List.set_cons_zero, List.set_cons_succ]
    refine rg_take (i := 4) (d := some 59) (l := #[true, true, true, true, true, false, false, false, false, false, false, false, false, false, false, false, false, false, false, false]) (fuel := 15) (v := ?_) rfl (by kernel_rfl) (by kernel_rfl) (by kernel_rfl) (by kernel_rfl) (by kernel_rfl) (fun _ _ _ h => h) (by kernel_rfl) ?_ (by assumption) ?_
    rotate_left 1
    · (intro wS hSw; (try dsimp only at hSw); go_simp; try with_reducible rfl)
    try simp only [Act.put, List.setIfInBounds_toArray, List.set_cons_zero, List.set_cons_succ]
    refine rg_take (i := 5) (d := some 60) (l := #[true, true, true, true, true, true, false, false, false, false, false, false, false, false, false, false, false, false, false, false]) (fuel := 14) (v := ?_) rfl (by kernel_rfl) (by kernel_rfl) (by kernel_rfl) (by kernel_rfl) (by kernel_rfl) (fun _ _ _ h => h) (by kernel_rfl) ?_ (by assumption) ?_
    rotate_left 1
    · (intro wS hSw; (try dsimp only at hSw); go_simp; try with_reducible rfl)
    try simp only [Act.put, List.setIfInBounds_toArray, List.set_cons_zero, List.set_cons_succ]
    refine rg_take (i := 6) (d := some 61) (l := #[true, true, true, true, true, true, true, false, false, false, false, false, false, false, false, false, false, false, false, false]) (fuel := 13) (v := ?_) rfl (by kernel_rfl) (by kernel_rfl) (by kernel_rfl) (by kernel_rfl) (by kernel_rfl) (fun _ _ _ h => h) (by kernel_rfl) ?_ (by assumption) ?_
    rotate_left 1
    · (intro wS hSw; (try dsimp only at hSw); go_simp; try with_reducible rfl)
    try simp only [Act.put, List.setIfInBounds_toArray, List.set_cons_zero, List.set_cons_succ]
    refine rg_take (i := 7) (d := some 62) (l := #[true, true, true, true, true, true, true, true, false, false, false, false, false, false, false, false, false, false, false, false]) (fuel := 12) (v := ?_) rfl (by kernel_rfl) (by kernel_rfl) (by kernel_rfl) (by kernel_rfl) (by kernel_rfl) (fun _ _ _ h => h) (by kernel_rfl) ?_ (by assumption) ?_
    rotate_left 1
    · (intro wS hSw; (try dsimp only at hSw); go_simp; try with_reducible rfl)
    try simp only [Act.put, List.setIfInBounds_toArray, List.set_cons_zero, List.set_cons_succ]
    refine rg_take (i := 8) (d := some 63) (l := #[true, true, true, true, true, true, true, true, true, false, false, false, false, false, false, false, false, false, false, false]) (fuel := 11) (v := ?_) rfl (by kernel_rfl) (by kernel_rfl) (by kernel_rfl) (by kernel_rfl) (by kernel_rfl) (fun _ _ _ h => h) (by kernel_rfl) ?_ (by assumption) ?_
    rotate_left 1
    · (intro wS hSw; (try dsimp only at hSw); go_simp; try with_reducible rfl)
    try simp only [Act.put, List.setIfInBounds_toArray, List.set_cons_zero, List.set_cons_succ]
    refine rg_skip (i := 9) (d := some 64) (l := #[true, true, true, true, true, true, true, true, true, true, false, false, false, false, false, false, false, false, false, false]) (fuel := 10) rfl (by kernel_rfl) (by kernel_rfl) (by kernel_rfl) (by kernel_rfl) (by kernel_rfl) (fun _ _ _ h => h) (by kernel_rfl) (by assumption) ?_
    try simp only [Act.put, List.setIfInBounds_toArray, List.set_cons_zero, List.set_cons_succ]
    refine rg_skip (i := 10) (d := some 65) (l := #[true, true, true, true, true, true, true, true, true, true, true, false, false, false, false, false, false, false, false, false]) (fuel := 9) rfl (by kernel_rfl) (by kernel_rfl) (by kernel_rfl) (by kernel_rfl) (by kernel_rfl) (fun _ _ _ h => h) (by kernel_rfl) (by assumption) ?_
    try simp only [Act.put, List.setIfInBounds_toArray, List.set_cons_zero, List.set_cons_succ]
    refine rg_skip (i := 11) (d := some 66) (l := #[true, true, true, true, true, true, true, true, true, true, true, true, false, false, false, false, false, false, false, false]) (fuel := 8) rfl (by kernel_rfl) (by kernel_rfl) (by kernel_rfl) (by kernel_rfl) (by kernel_rfl) (fun _ _ _ h => h) (by kernel_rfl) (by assumption) ?_
    try simp only [Act.put, List.setIfInBounds_toArray, List.set_cons_zero, List.set_cons_succ]
    refine rg_skip (i := 12) (d := some 67) (l := #[true, true, true, true, true, true, true, true, true, true, true, true, true, false, false, false, false, false, false, false]) (fuel := 7) rfl (by kernel_rfl) (by kernel_rfl) (by kernel_rfl) (by kernel_rfl) (by kernel_rfl) (fun _ _ _ h => h) (by kernel_rfl) (by assumption) ?_
    try simp only [Act.put, List.setIfInBounds_toArray, List.set_cons_zero, List.set_cons_succ]
    refine rg_skip (i := 13) (d := some 68) (l := #[true, true, true, true, true, true, true, true, true, true, true, true, true, true, false, false, false, false, false, false]) (fuel := 6) rfl (by kernel_rfl) (by kernel_rfl) (by kernel_rfl) (by kernel_rfl) (by kernel_rfl) (fun _ _ _ h => h) (by kernel_rfl) (by assumption) ?_
    try simp only [Act.put, List.setIfInBounds_toArray, List.set_cons_zero, List.set_cons_succ]
    refine rg_skip (i := 14) (d := some 69) (l := #[true, true, true, true, true, true, true, true, true, true, true, true, true, true, true, false, false, false, false, false]) (fuel := 5) rfl (by kernel_rfl) (by kernel_rfl) (by kernel_rfl) (by kernel_rfl) (by kernel_rfl) (fun _ _ _ h => h) (by kernel_rfl) (by assumption) ?_
    try simp only [Act.put, List.setIfInBounds_toArray, List.set_cons_zero, List.set_cons_succ]
    refine rg_skip (i := 15) (d := some 70) (l := #[true, true, true, true, true, true, true, true, true, true, true, true, true, true, true, true, false, false, false, false]) (fuel := 4) rfl (by kernel_rfl) (by kernel_rfl) (by kernel_rfl) (by kernel_rfl) (by kernel_rfl) (fun _ _ _ h => h) (by kernel_rfl) (by assumption) ?_
    try simp only [Act.put, List.setIfInBounds_toArray, List.set_cons_zero, List.set_cons_succ]
    refine rg_skip (i := 16) (d := some 71) (l := #[true, true, true, true, true, true, true, true, true, true, true, true, true, true, true, true, true, false, false, false]) (fuel := 3) rfl (by kernel_rfl) (by kernel_rfl) (by kernel_rfl) (by kernel_rfl) (by kernel_rfl) (fun _ _ _ h => h) (by kernel_rfl) (by assumption) ?_
    try simp only [Act.put, List.setIfInBounds_toArray, List.set_cons_zero, List.set_cons_succ]
    refine rg_take (i := 17) (d := some 72) (l := #[true, true, true, true, true, true, true, true, true, true, true, true, true, true, true, true, true, true, false, false]) (fuel := 2) (v := ?_) rfl (by kernel_rfl) (by kernel_rfl) (by kernel_rfl) (by kernel_rfl) (by kernel_rfl) (fun _ _ _ h => h) (by kernel_rfl) ?_ (by assumption) ?_
    rotate_left 1
    · (intro wS hSw; (try dsimp only at hSw); go_simp; try with_reducible rfl)
    try simp only [Act.put, List.setIfInBounds_toArray, List.set_cons_zero, List.set_cons_succ]
    refine rg_take (i := 18) (d := some 73) (l := #[true, true, true, true, true, true, true, true, true, true, true, true, true, true, true, true, true, true, true, false]) (fuel := 1) (v := ?_) rfl (by kernel_rfl) (by kernel_rfl) (by kernel_rfl) (by kernel_rfl) (by kernel_rfl) (fun _ _ _ h => h) (by kernel_rfl) ?_ (by assumption) ?_
    rotate_left 1
    · (intro wS hSw; (try dsimp only at hSw); go_simp; try with_reducible rfl)
    try simp only [Act.put, List.setIfInBounds_toArray, List.set_cons_zero, List.set_cons_succ]
    refine rg_take (i := 19) (d := some 4) (l := #[true, true, true, true, true, true, true, true, true, true, true, true, true, true, true, true, true, true, true, true]) (fuel := 0) (v := ?_) rfl (by kernel_rfl) (by kernel_rfl) (by kernel_rfl) (by kernel_rfl) (by kernel_rfl) (fun _ _ _ h => h) (by kernel_rfl) ?_ (by assumption) ?_
    rotate_left 1
    · (intro wS hSw; (try dsimp only at hSw); go_simp; try with_reducible rfl)
    try simp only [Act.put, List.setIfInBounds_toArray, List.set_cons_zero, List.set_cons_succ]
    refine wpAnyH_done (by kernel_rfl) ?_ _
    go_wp2_with fail
    go_ret
    exact ⟨rfl, K10.out⟩
  · have hne : (y != b) = true := by simpa using hyb
    have hE : ∀ i, i ≠ j → F i = fw F a b i := fun i hi => by
      unfold fw
      rw [HJ.out, if_neg hi]
    have hN : F j ≠ fw F a b j := by
      unfold fw
      rw [HJ.out, if_pos rfl, HY.out]
      exact hyb
    have HEQ := Lib.hid hE
    have HNE := Lib.hid hN
    clear hE hN hyb
    go_wp2_with fail
    refine rg_begin (S := fun w' => w'.cell? ⟨W.heap.size, 0, none⟩ = some (.int .u16 a) ∧ w'.cell? ⟨W.heap.size, 1, none⟩ = some (.int .u8 b)) 8 #[false, false, false, false, false, false, false, false] (by kernel_rfl) (by kernel_rfl) (by kernel_rfl) ?_ (fun hHeld => ?_)
    · exact ⟨x0, x1⟩
    refine rg_take (i := 0) (d := some 42) (l := #[true, false, false, false, false, false, false, false]) (fuel := 7) (v := ?_) rfl (by kernel_rfl) (by kernel_rfl) (by kernel_rfl) (by kernel_rfl) (by kernel_rfl) (fun _ _ _ h => h) (by kernel_rfl) ?_ (by assumption) ?_
    rotate_left 1
    · (intro wS hSw; (try dsimp only at hSw); go_simp; try with_reducible rfl)
    try simp only [Act.put, List.setIfInBounds_toArray, List.set_cons_zero, List.set_cons_succ]
    refine rg_take (i := 1) (d := some 43) (l := #[true, true, false, false, false, false, false, false]) (fuel := 6) (v := ?_) rfl (by kernel_rfl) (by kernel_rfl) (by kernel_rfl) (by kernel_rfl) (by kernel_rfl) (fun _ _ _ h => h) (by kernel_rfl) ?_ (by assumption) ?_
    rotate_left 1
    · (intro wS hSw; (try dsimp only at hSw); go_simp; try with_reducible rfl)
    try simp only [Act.put, List.setIfInBounds_toArray, List.set_cons_zero, List.set_cons_succ]
    refine rg_take (i := 2) (d := some 44) (l := #[true, true, true, false, false, false, false, false]) (fuel := 5) (v := ?_) rfl (by kernel_rfl) (by kernel_rfl) (by kernel_rfl) (by kernel_rfl) (by kernel_rfl) (fun _ _ _ h => h) (by kernel_rfl) ?_ (by assumption) ?_
    rotate_left 1
    · (intro wS hSw; (try dsimp only at hSw); go_simp; try with_reducible rfl)
    try simp only [Act.put, List.setIfInBounds_toArray, List.set_cons_zero, List.set_cons_succ]
    refine rg_take (i := 4) (d := some 46) (l := #[true, true, true, false, true, false, false, false]) (fuel := 4) (v := ?_) rfl (by kernel_rfl) (by kernel_rfl) (by kernel_rfl) (by kernel_rfl) (by kernel_rfl) (fun _ _ _ h => h) (by kernel_rfl) ?_ (by assumption) ?_
    rotate_left 1
    · (intro wS hSw; (try dsimp only at hSw); go_simp; try with_reducible rfl)
    try simp only [Act.put, List.setIfInBounds_toArray, List.set_cons_zero, List.set_cons_succ]
    refine rg_take (i := 5) (d := some 47) (l := #[true, true, true, false, true, true, false, false]) (fuel := 3) (v := ?_) rfl (by kernel_rfl) (by kernel_rfl) (by kernel_rfl) (by kernel_rfl) (by kernel_rfl) (fun _ _ _ h => h) (by kernel_rfl) ?_ (by assumption) ?_
    rotate_left 1
    · (intro wS hSw; (try dsimp only at hSw); go_simp; try with_reducible rfl)
    try simp only [Act.put, List.setIfInBounds_toArray, List.set_cons_zero, List.set_cons_succ]
    refine rg_next (i := 3) (l := #[true, true, true, true, true, true, false, false]) (fuel := 2) (by kernel_rfl) rfl (by kernel_rfl) (by kernel_rfl) (fun K hK => ?_)
    go_simp
    (go_at_call 26)
    refine (rread_any (w := w7.drew) (by exact HM9.out) a a0 a1).mono ?_
    rw [HJ.out, HY.out]
    rintro e w8 ⟨rfl, k8⟩
    have K8 := Lib.hid (KRH.out w8 k8)
    clear k8
    have z0 : w8.cell? ⟨W.heap.size, 0, none⟩ = some (.int .u16 a) := K8.out.2.2.2.cell 0
    have z1 : w8.cell? ⟨W.heap.size, 1, none⟩ = some (.int .u8 b) := K8.out.2.2.2.cell 1
    first | (refine hK.out _ _ ?_ (fun hHeld => ?_)) | (go_wp2_with fail; refine hK.out _ _ ?_ (fun hHeld => ?_))
    · (try dsimp only); exact ⟨z0, z1⟩
    clear hK K
    try simp only [Act.put, List.setIfInBounds_toArray, List.set_cons_zero, List.set_cons_succ]
    refine rg_take (i := 6) (d := some 48) (l := #[true, true, true, true, true, true, true, false]) (fuel := 1) (v := ?_) rfl (by kernel_rfl) (by kernel_rfl) (by kernel_rfl) (by kernel_rfl) (by kernel_rfl) (fun _ _ _ h => h) (by kernel_rfl) ?_ (by assumption) ?_
    rotate_left 1
    · (intro wS hSw; (try dsimp only at hSw); go_simp; try with_reducible rfl)
    try simp only [Act.put, List.setIfInBounds_toArray, List.set_cons_zero, List.set_cons_succ]
    refine rg_take (i := 7) (d := some 9) (l := #[true, true, true, true, true, true, true, true]) (fuel := 0) (v := ?_) rfl (by kernel_rfl) (by kernel_rfl) (by kernel_rfl) (by kernel_rfl) (by kernel_rfl) (fun _ _ _ h => h) (by kernel_rfl) ?_ (by assumption) ?_
    rotate_left 1
    · (intro wS hSw; (try dsimp only at hSw); go_simp; try with_reducible rfl)
    try simp only [Act.put, List.setIfInBounds_toArray, List.set_cons_zero, List.set_cons_succ]
    refine wpAnyH_done (by kernel_rfl) ?_ _
    go_wp2_with fail
    refine (rwrite_any K8.out.2.2.1 a b a0 a1).mono ?_
    rintro e w9 ⟨rfl, mb9, h9, k9, _⟩
    have no1 : g ∉ g2 :: mb2.toList := by
      intro hx
      rcases List.mem_cons.1 hx with e | hx
      · omega
      · have := HMB.out g (by simpa using hx); omega
    have no2 : ∀ z, mb = some z → z ∉ g2 :: mb2.toList := fun z ez hx => by
      have h1 := hml.2 z ez
      rcases List.mem_cons.1 hx with e | hx
      · omega
      · have := HMB.out z (by simpa using hx); omega
    have no3 : W.heap.size ∉ g2 :: mb2.toList := by
      intro hx
      rcases List.mem_cons.1 hx with e | hx
      · omega
      · have := HMB.out _ (by simpa using hx); omega
    have no4 : ∀ z ∈ g2 :: mb2.toList, W.heap.size ≤ z := by
      intro z hx
      rcases List.mem_cons.1 hx with e | hx
      · omega
      · have := HMB.out z (by simpa using hx); omega
    have hs8 := K8.out.1.size
    have HB10 := Lib.hid (k9.onto K8.out.1 hs8 no4)
    have HM10 := Lib.hid (K8.out.2.1.kp k9 no1 no2)
    have HN10 := Lib.hid h9
    have HX10 := Lib.hid (K8.out.2.2.2.kp k9 no3)
    have y0 : w9.cell? ⟨W.heap.size, 0, none⟩ = some (.int .u16 a) := HX10.out.cell 0
    have hs10 := HB10.out.size
    clear k9 h9 no1 no2 no3 no4 HMB
    go_wp2_with fail
    have eqj : ((j : Int) == (j : Int)) = true := beq_self_eq_true _
    refine rg_begin (S := fun w' => w'.cell? ⟨W.heap.size, 0, none⟩ = some (.int .u16 a)) 20 #[false, false, false, false, false, false, false, false, false, false, false, false, false, false, false, false, false, false, false, false] (by kernel_rfl) (by kernel_rfl) (by kernel_rfl) ?_ (fun hHeld => ?_)
    · exact y0
    refine rg_take (i := 0) (d := some 55) (l := #[true, false, false, false, false, false, false, false, false, false, false, false, false, false, false, false, false, false, false, false]) (fuel := 19) (v := ?_) rfl (by kernel_rfl) (by kernel_rfl) (by kernel_rfl) (by kernel_rfl) (by kernel_rfl) (fun _ _ _ h => h) (by kernel_rfl) ?_ (by assumption) ?_
    rotate_left 1
    · (intro wS hSw; (try dsimp only at hSw); go_simp; try with_reducible rfl)
    try simp only [Act.put, List.setIfInBounds_toArray, List.set_cons_zero, List.set_cons_succ]
    refine rg_take (i := 1) (d := some 56) (l := #[true, true, false, false, false, false, false, false, false, false, false, false, false, false, false, false, false, false, false, false]) (fuel := 18) (v := ?_) rfl (by kernel_rfl) (by kernel_rfl) (by kernel_rfl) (by kernel_rfl) (by kernel_rfl) (fun _ _ _ h => h) (by kernel_rfl) ?_ (by assumption) ?_
    rotate_left 1
    · (intro wS hSw; (try dsimp only at hSw); go_simp; try with_reducible rfl)
    try simp only [Act.put, List.setIfInBounds_toArray, List.set_cons_zero, List.set_cons_succ]
    refine rg_take (i := 3) (d := some 58) (l := #[true, true, false, true, false, false, false, false, false, false, false, false, false, false, false, false, false, false, false, false]) (fuel := 17) (v := ?_) rfl (by kernel_rfl) (by kernel_rfl) (by kernel_rfl) (by kernel_rfl) (by kernel_rfl) (fun _ _ _ h => h) (by kernel_rfl) ?_ (by assumption) ?_
    rotate_left 1
    · (intro wS hSw; (try dsimp only at hSw); go_simp; try with_reducible rfl)
    try simp only [Act.put, List.setIfInBounds_toArray, List.set_cons_zero, List.set_cons_succ]
    refine rg_next (i := 2) (l := #[true, true, true, true, false, false, false, false, false, false, false, false, false, false, false, false, false, false, false, false]) (fuel := 16) (by kernel_rfl) rfl (by kernel_rfl) (by kernel_rfl) (fun K hK => ?_)
    go_simp
    (go_at_call 22)
    refine (same_f (w := w9.drew) (p := F) (q := fw F a b) (.inr ⟨g, mb, rfl, by exact HM10.out⟩) (.inr ⟨g2, mb9, rfl, by exact HN10.out⟩) hj8 HEQ.out HNE.out).mono ?_
    rintro e w10 ⟨rfl, k10⟩
    have K10 := Lib.hid (HB10.out.drew.trans (k10.mono hs10))
    have M10 := Lib.hid (RD.keep (w := w9.drew) (by exact HM10.out) k10)
    have N10 := Lib.hid (RD.keep (w := w9.drew) (by exact HN10.out) k10)
    have XX := Lib.hid (HX10.out.later k10 rfl)
    have y1 : w10.cell? ⟨W.heap.size, 0, none⟩ = some (.int .u16 a) := XX.out.cell 0
    clear k10
    first | (refine hK.out _ _ ?_ (fun hHeld => ?_)) | (go_wp2_with fail; refine hK.out _ _ ?_ (fun hHeld => ?_))
    · (try dsimp only); exact y1
    clear hK K
    try simp only [Act.put, List.setIfInBounds_toArray, List.set_cons_zero, List.set_cons_succ]
    refine rg_take (i := 4) (d := some 59) (l := #[true, true, true, true, true, false, false, false, false, false, false, false, false, false, false, false, false, false, false, false]) (fuel := 15) (v := ?_) rfl (by kernel_rfl) (by kernel_rfl) (by kernel_rfl) (by kernel_rfl) (by kernel_rfl) (fun _ _ _ h => h) (by kernel_rfl) ?_ (by assumption) ?_
    rotate_left 1
    · (intro wS hSw; (try dsimp only at hSw); go_simp; try with_reducible rfl)
    try simp only [Act.put, List.setIfInBounds_toArray, List.set_cons_zero, List.set_cons_succ]
    refine rg_take (i := 5) (d := some 60) (l := #[true, true, true, true, true, true, false, false, false, false, false, false, false, false, false, false, false, false, false, false]) (fuel := 14) (v := ?_) rfl (by kernel_rfl) (by kernel_rfl) (by kernel_rfl) (by kernel_rfl) (by kernel_rfl) (fun _ _ _ h => h) (by kernel_rfl) ?_ (by assumption) ?_
    rotate_left 1
    · (intro wS hSw; (try dsimp only at hSw); go_simp; try with_reducible rfl)
    try simp only [Act.put, List.setIfInBounds_toArray, List.set_cons_zero, List.set_cons_succ]
    refine rg_take (i := 6) (d := some 61) (l := #[true, true, true, true, true, true, true, false, false, false, false, false, false, false, false, false, false, false, false, false]) (fuel := 13) (v := ?_) rfl (by kernel_rfl) (by kernel_rfl) (by kernel_rfl) (by kernel_rfl) (by kernel_rfl) (fun _ _ _ h => h) (by kernel_rfl) ?_ (by assumption) ?_
    rotate_left 1
    · (intro wS hSw; (try dsimp only at hSw); go_simp; try with_reducible rfl)
    try simp only [Act.put, List.setIfInBounds_toArray, List.set_cons_zero, List.set_cons_succ]
    refine rg_take (i := 7) (d := some 62) (l := #[true, true, true, true, true, true, true, true, false, false, false, false, false, false, false, false, false, false, false, false]) (fuel := 12) (v := ?_) rfl (by kernel_rfl) (by kernel_rfl) (by kernel_rfl) (by kernel_rfl) (by kernel_rfl) (fun _ _ _ h => h) (by kernel_rfl) ?_ (by assumption) ?_
    rotate_left 1
    · (intro wS hSw; (try dsimp only at hSw); go_simp; try with_reducible rfl)
    try simp only [Act.put, List.setIfInBounds_toArray, List.set_cons_zero, List.set_cons_succ]
    refine rg_take (i := 8) (d := some 63) (l := #[true, true, true, true, true, true, true, true, true, false, false, false, false, false, false, false, false, false, false, false]) (fuel := 11) (v := ?_) rfl (by kernel_rfl) (by kernel_rfl) (by kernel_rfl) (by kernel_rfl) (by kernel_rfl) (fun _ _ _ h => h) (by kernel_rfl) ?_ (by assumption) ?_
    rotate_left 1
    · (intro wS hSw; (try dsimp only at hSw); go_simp; try with_reducible rfl)
    try simp only [Act.put, List.setIfInBounds_toArray, List.set_cons_zero, List.set_cons_succ]
    refine rg_take (i := 9) (d := some 64) (l := #[true, true, true, true, true, true, true, true, true, true, false, false, false, false, false, false, false, false, false, false]) (fuel := 10) (v := ?_) rfl (by kernel_rfl) (by kernel_rfl) (by kernel_rfl) (by kernel_rfl) (by kernel_rfl) (fun _ _ _ h => h) (by kernel_rfl) ?_ (by assumption) ?_
    rotate_left 1
    · (intro wS hSw; (try dsimp only at hSw); go_simp; try with_reducible rfl)
    try simp only [Act.put, List.setIfInBounds_toArray, List.set_cons_zero, List.set_cons_succ]
    refine rg_take (i := 10) (d := some 65) (l := #[true, true, true, true, true, true, true, true, true, true, true, false, false, false, false, false, false, false, false, false]) (fuel := 9) (v := ?_) rfl (by kernel_rfl) (by kernel_rfl) (by kernel_rfl) (by kernel_rfl) (by kernel_rfl) (fun _ _ _ h => h) (by kernel_rfl) ?_ (by assumption) ?_
    rotate_left 1
    · (intro wS hSw; (try dsimp only at hSw); go_simp; try with_reducible rfl)
    try simp only [Act.put, List.setIfInBounds_toArray, List.set_cons_zero, List.set_cons_succ]
    refine rg_take (i := 12) (d := some 67) (l := #[true, true, true, true, true, true, true, true, true, true, true, false, true, false, false, false, false, false, false, false]) (fuel := 8) (v := ?_) rfl (by kernel_rfl) (by kernel_rfl) (by kernel_rfl) (by kernel_rfl) (by kernel_rfl) (fun _ _ _ h => h) (by kernel_rfl) ?_ (by assumption) ?_
    rotate_left 1
    · (intro wS hSw; (try dsimp only at hSw); go_simp; try with_reducible rfl)
    try simp only [Act.put, List.setIfInBounds_toArray, List.set_cons_zero, List.set_cons_succ]
    refine rg_take (i := 13) (d := some 68) (l := #[true, true, true, true, true, true, true, true, true, true, true, false, true, true, false, false, false, false, false, false]) (fuel := 7) (v := ?_) rfl (by kernel_rfl) (by kernel_rfl) (by kernel_rfl) (by kernel_rfl) (by kernel_rfl) (fun _ _ _ h => h) (by kernel_rfl) ?_ (by assumption) ?_
    rotate_left 1
    · (intro wS hSw; (try dsimp only at hSw); go_simp; try with_reducible rfl)
    try simp only [Act.put, List.setIfInBounds_toArray, List.set_cons_zero, List.set_cons_succ]
    refine rg_take (i := 14) (d := some 69) (l := #[true, true, true, true, true, true, true, true, true, true, true, false, true, true, true, false, false, false, false, false]) (fuel := 6) (v := ?_) rfl (by kernel_rfl) (by kernel_rfl) (by kernel_rfl) (by kernel_rfl) (by kernel_rfl) (fun _ _ _ h => h) (by kernel_rfl) ?_ (by assumption) ?_
    rotate_left 1
    · (intro wS hSw; (try dsimp only at hSw); go_simp; try with_reducible rfl)
    try simp only [Act.put, List.setIfInBounds_toArray, List.set_cons_zero, List.set_cons_succ]
    refine rg_take (i := 15) (d := some 70) (l := #[true, true, true, true, true, true, true, true, true, true, true, false, true, true, true, true, false, false, false, false]) (fuel := 5) (v := ?_) rfl (by kernel_rfl) (by kernel_rfl) (by kernel_rfl) (by kernel_rfl) (by kernel_rfl) (fun _ _ _ h => h) (by kernel_rfl) ?_ (by assumption) ?_
    rotate_left 1
    · (intro wS hSw; (try dsimp only at hSw); go_simp; try with_reducible rfl)
    try simp only [Act.put, List.setIfInBounds_toArray, List.set_cons_zero, List.set_cons_succ]
    refine rg_next (i := 11) (l := #[true, true, true, true, true, true, true, true, true, true, true, true, true, true, true, true, false, false, false, false]) (fuel := 4) (by kernel_rfl) rfl (by kernel_rfl) (by kernel_rfl) (fun K hK => ?_)
    go_simp
    (go_at_call 20)
    refine (oth_f (p := F) (q := fw F a b) (.inr ⟨g, mb, rfl, M10.out⟩) (.inr ⟨g2, mb9, rfl, N10.out⟩) hj8 HEQ.out HNE.out).mono ?_
    rintro e w11 ⟨rfl, k11⟩
    have K11 := Lib.hid (K10.out.trans (k11.mono K10.out.size))
    have y2 : w11.cell? ⟨W.heap.size, 0, none⟩ = some (.int .u16 a) := (XX.out.below k11 XX.out.lt).cell 0
    clear k11
    first | (refine hK.out _ _ ?_ (fun hHeld => ?_)) | (go_wp2_with fail; refine hK.out _ _ ?_ (fun hHeld => ?_))
    · (try dsimp only); exact y2
    clear hK K
    try simp only [Act.put, List.setIfInBounds_toArray, List.set_cons_zero, List.set_cons_succ]
    refine rg_take (i := 16) (d := some 71) (l := #[true, true, true, true, true, true, true, true, true, true, true, true, true, true, true, true, true, false, false, false]) (fuel := 3) (v := ?_) rfl (by kernel_rfl) (by kernel_rfl) (by kernel_rfl) (by kernel_rfl) (by kernel_rfl) (fun _ _ _ h => h) (by kernel_rfl) ?_ (by assumption) ?_
    rotate_left 1
    · (intro wS hSw; (try dsimp only at hSw); go_simp; try with_reducible rfl)
    try simp only [Act.put, List.setIfInBounds_toArray, List.set_cons_zero, List.set_cons_succ]
    refine rg_take (i := 17) (d := some 72) (l := #[true, true, true, true, true, true, true, true, true, true, true, true, true, true, true, true, true, true, false, false]) (fuel := 2) (v := ?_) rfl (by kernel_rfl) (by kernel_rfl) (by kernel_rfl) (by kernel_rfl) (by kernel_rfl) (fun _ _ _ h => h) (by kernel_rfl) ?_ (by assumption) ?_
    rotate_left 1
    · (intro wS hSw; (try dsimp only at hSw); go_simp; try with_reducible rfl)
    try simp only [Act.put, List.setIfInBounds_toArray, List.set_cons_zero, List.set_cons_succ]
    refine rg_take (i := 18) (d := some 73) (l := #[true, true, true, true, true, true, true, true, true, true, true, true, true, true, true, true, true, true, true, false]) (fuel := 1) (v := ?_) rfl (by kernel_rfl) (by kernel_rfl) (by kernel_rfl) (by kernel_rfl) (by kernel_rfl) (fun _ _ _ h => h) (by kernel_rfl) ?_ (by assumption) ?_
    rotate_left 1
    · (intro wS hSw; (try dsimp only at hSw); go_simp; try with_reducible rfl)
    try simp only [Act.put, List.setIfInBounds_toArray, List.set_cons_zero, List.set_cons_succ]
    refine rg_take (i := 19) (d := some 4) (l := #[true, true, true, true, true, true, true, true, true, true, true, true, true, true, true, true, true, true, true, true]) (fuel := 0) (v := ?_) rfl (by kernel_rfl) (by kernel_rfl) (by kernel_rfl) (by kernel_rfl) (by kernel_rfl) (fun _ _ _ h => h) (by kernel_rfl) ?_ (by assumption) ?_
    rotate_left 1
    · (intro wS hSw; (try dsimp only at hSw); go_simp; try with_reducible rfl)
    try simp only [Act.put, List.setIfInBounds_toArray, List.set_cons_zero, List.set_cons_succ]
    refine wpAnyH_done (by kernel_rfl) ?_ _
    go_wp2_with fail
    go_ret
    exact ⟨by simp, K11.out⟩

theorem own : ownKnob Try.prog.godebug = none := by kernel_rfl
theorem laidOut : laidOutB Try.prog = true := by kernel_rfl
set_option maxRecDepth 100000 in
theorem lifted (os : Os) (started : os.Started) (H : Type) (enc : TypeId × Value → H) :
    ReturnsInHanded {} Try.checked os 5 .any (Rows.ramBackSpec.pre6 enc Try.prog Try.f5 Rows.ramBackRow.domain false) (Rows.ramBackSpec.post enc Try.prog Try.f5 false true false false) := by
  refine returnsInHanded_of_change (C := Try.checked) own started (by kernel_rfl) Try.func5
    (ChangeSpec.witness6 (enc := enc) (C := Try.checked) false ⟨#[], #[.slice none 0 0, .agg #[.int .u16 0, .int .u8 0]], []⟩ 8 (by kernel_rfl) (by kernel_rfl) (by kernel_rfl) (by kernel_rfl)) ?_
  intro W base args ds gs before hval0 hW _ _
  have hval : ∀ (j : Nat) t v, Try.f5.params[j]? = some t → args[j]? = some v → Value.okWide Try.prog W .any base t v := hval0
  have hW' := hW
  obtain ⟨p, q, hA0, hV, rfl, _, _⟩ := hW
  have hA : DataW.TrodAll enc Try.prog W 0 (fun _ => true) true Try.f5.params.toList args.toList ds p := hA0
  rw [Try.params5] at hA hval
  obtain ⟨v0, vs0, d0, ds0, p0, q0, hargs, rfl, rfl, h0, r0⟩ := trodAll_cons hA
  obtain ⟨v1, vs1, d1, ds1, p1, q1, rfl, rfl, rfl, h1, r1⟩ := trodAll_cons r0
  obtain ⟨rfl, rfl, rfl⟩ := trodAll_nil r1
  obtain rfl : args = #[v0, v1] := by cases args; simp_all
  obtain ⟨rfl, rfl⟩ := trodVars_none hV
  obtain ⟨A0, n0, c0, z0, rfl, g0, m0, R0⟩ := slice_pairs Try.underlying34 Try.underlying49 (by kernel_rfl) (by kernel_rfl) Try.underlying47 Try.underlying5 (hval 0 34 v0 rfl rfl) h0
  obtain ⟨z1, rfl, R1, Q1⟩ := pair_value Try.underlying49 (by kernel_rfl) (by kernel_rfl) Try.underlying47 Try.underlying5 (hval 1 49 v1 rfl rfl) h1
  clear hA0 hval0
  refine (walk A0 n0 c0 z0 g0 m0 R0 z1 R1 Q1).mono fun e W' ⟨he, hg⟩ => ?_
  subst he
  exact ⟨_, rfl, law_post rfl Try.underlying4 laidOut (by kernel_rfl) rfl hW' rfl hg⟩

theorem over : Rows.ramBackRow.holds Try.pinned (OpenSpec.ofChange Rows.ramBackSpec) :=
  OpenClaim.holds_of_wide 5 Try.f5 rfl rfl rfl rfl rfl rfl rfl ⟨rfl, rfl, rfl, rfl, rfl⟩ rfl rfl rfl rfl rfl (by kernel_rfl) Try.func5 (by kernel_rfl)
    (of_decide_eq_true (by kernel_rfl)) (by unfold Func.isWrapper; first | (rw [if_pos (by decide +kernel)]; kernel_rfl) | (rw [if_neg (by decide +kernel)]; exact ⟨rfl, rfl⟩))
    (fun os started H enc _ => lifted os started H enc)

theorem proved : Rows.RamBackSaid := over
#print axioms proved
end Go.Proofs.Ytfhndajhlpakoaa.ramBack
