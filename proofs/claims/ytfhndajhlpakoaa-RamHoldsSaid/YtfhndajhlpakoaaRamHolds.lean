/-
  For every input RamHolds returns true, and each argument reads behind the call as it read before. No conditions.
-/
import Derived.Test.YtfhndajhlpakoaaRows
import Derived.Test.YtfhndajhlpakoaaG3
import Derived.Test.YtfhndajhlpakoaaRam7
import Derived.Test.YtfhndajhlpakoaaRam8
import Derived.Test.YtfhndajhlpakoaaRam9
import Derived.Test.YtfhndajhlpakoaaRam10
import Derived.Test.YtfhndajhlpakoaaRam12
import Derived.Test.YtfhndajhlpakoaaG13
namespace Go.Proofs.Ytfhndajhlpakoaa.ramHolds
open Go.ChangeShapes Go.WideShapes Go.ChangeAt Go.RowKit
open Go.ChangeMaps (open_string)

set_option linter.unusedVariables false
set_option linter.unusedSimpArgs false
theorem fws_wf {f : Nat → Int} {ps : Nat → Int × Int} {n : Nat} (hf : ∀ i, (Lit.int .u8 (f i)).wf = true) (hp : ∀ i, i < n → (Lit.int .u8 (ps i).2).wf = true) : ∀ k, k ≤ n → ∀ i, (Lit.int .u8 (fws f ps k i)).wf = true
  | 0, _, i => hf i
  | k + 1, hk, i => by
    show (Lit.int .u8 (fw (fws f ps k) (ps k).1 (ps k).2 i)).wf = true
    unfold fw
    split
    · exact hp k (by omega)
    · exact fws_wf hf hp k (by omega) i
theorem clone_fresh {w : World} {gp c : Nat} {F : Nat → Int} (R : IRow w .u8 (some ⟨gp, 0, none⟩) 8192 F) :
    ∃ gv cv w5, (Builtin.append_ #[23, 23] 23 #[.slice (some ⟨w.heap.size, 0, none⟩) 0 0, .slice (some ⟨gp, 0, none⟩) 8192 c]).run Try.prog (w.alloc (.cells #[] 5)) = .ok (.slice (some ⟨gv, 0, none⟩) 8192 cv) w5 ∧
      8192 ≤ cv ∧ cv ≤ maxLen ∧ (∃ Cv : List Value, Blk w5 gv 5 Cv.toArray ∧ BAt Cv F) ∧ w.heap.size ≤ gv ∧ Below w.heap.size w w5 := by
  have hB0 : Below w.heap.size w (w.alloc (.cells #[] 5)) := (Below.refl _ _).alloc (Nat.le_refl _) _
  have hown0 : (w.alloc (.cells #[] 5)).ownsRow w.heap.size 5 1 (.slice (some ⟨w.heap.size, 0, none⟩) 0 0) 0 [] :=
    ⟨rfl, Or.inr ⟨w.heap.size, 0, #[], rfl, Nat.le_refl _, heap_alloc_new w _, Nat.le_refl _, by unfold maxLen; omega, rfl, rfl⟩⟩
  obtain ⟨v1, w1, r1, o1, g1⟩ := more_ints (P := Try.prog) (ty := 23) (t := 23) (bytes := 1) (c := c) Try.underlying23 u8_info' (by omega) hown0 (R.keep hB0) (by omega) hB0.size
  have hB1 : Below w.heap.size w w1 := hB0.grown g1 hB0.size (fun k h => by simp [Value.ownBlock] at h; omega)
  rw [List.nil_append, Nat.zero_add] at o1
  rcases o1.2 with ⟨rfl, h0⟩ | ⟨g, cap, cur, rfl, hg, hh, hnc, hcm, _, _⟩
  · exact absurd h0 (by omega)
  · refine ⟨g, cap, w1, r1, hnc, hcm, ⟨cur.toList, hh, fun i hi => ?_⟩, hg, hB1⟩
    have h1 := o1.cells (g := g) rfl i _ (intsOf_at .u8 F 8192 i hi)
    have hb : Blk w1 g 5 cur := hh
    rw [add_zero_block, hb.cell] at h1
    simpa using h1
theorem first_uniq {a b : Nat → Int} {r s : Int} (h : FirstD a b 8192 r) (k : FirstD a b 8192 s) : r = s := by
  rcases h with ⟨h, h1⟩ | ⟨i, hi, h, h1, h2⟩ <;> rcases k with ⟨k, k1⟩ | ⟨j, hj, k, k1, k2⟩
  · rw [h, k]
  · exact absurd (h1 j hj) k1
  · exact absurd (k1 i hi) h1
  · rcases Nat.lt_trichotomy i j with e | e | e
    · exact absurd (k2 i e) h1
    · rw [h, k, e]
    · exact absurd (h2 j e) k1
theorem rd_lt {w : World} {g : Nat} {mb : Option Nat} {f : Nat → Int} (h : RD w g mb f) : g < w.heap.size ∧ ∀ b, mb = some b → b < w.heap.size := by
  refine ⟨h.1.lt, fun b e => ?_⟩
  have hm := h.2
  rw [e] at hm
  obtain ⟨D, ho, _⟩ := hm
  exact ho.lt
set_option maxRecDepth 100000 in
set_option maxHeartbeats 4000000 in
theorem walk {W : World} (A : Option Addr) (m c : Nat) (ps : Nat → Pc) (hmc : m ≤ c) (hc : c ≤ maxLen) (R : PRow W A m ps)
    (A1 : Option Addr) (n1 c1 : Nat) (p1 : Nat → Int × Int) (hc1 : n1 ≤ c1) (hm1 : c1 ≤ maxLen) (R1 : I2Row W .u16 .u8 A1 n1 p1)
    (A2 : Option Addr) (n2 c2 : Nat) (p2 : Nat → Int × Int) (hc2 : n2 ≤ c2) (hm2 : c2 ≤ maxLen) (R2 : I2Row W .u16 .u8 A2 n2 p2) :
    Calls Try.prog 4 #[.slice A m c, .slice A1 n1 c1, .slice A2 n2 c2] W fun e w' => e = .returned (.bool true) ∧ Below W.heap.size W w' := by
  have HM := Lib.hid (show m ≤ maxLen by omega)
  unfold maxLen at hc hm1 hm2
  by_cases g0 : 20 < m
  · have i0 : (20 : Int) < m := by omega
    clear R R1 R2
    go_enter Try.func4, Try.ntmps4
    go_wp2_with (go_at_call 14; refine (liveR_any _).mono ?_; rintro e w1 ⟨rfl, hB⟩)
    go_ret
    exact ⟨rfl, hB⟩
  by_cases g1 : 200 < n1
  · have i0 : ¬ (20 : Int) < m := by omega
    have i1 : (200 : Int) < n1 := by omega
    clear R R1 R2
    go_enter Try.func4, Try.ntmps4
    go_wp2_with (go_at_call 14; refine (liveR_any _).mono ?_; rintro e w1 ⟨rfl, hB⟩)
    go_ret
    exact ⟨rfl, hB⟩
  by_cases g2 : 200 < n2
  · have i0 : ¬ (20 : Int) < m := by omega
    have i1 : ¬ (200 : Int) < n1 := by omega
    have i2 : (200 : Int) < n2 := by omega
    clear R R1 R2
    go_enter Try.func4, Try.ntmps4
    go_wp2_with (go_at_call 14; refine (liveR_any _).mono ?_; rintro e w1 ⟨rfl, hB⟩)
    go_ret
    exact ⟨rfl, hB⟩
  have i0 : ¬ (20 : Int) < m := by omega
  have i1 : ¬ (200 : Int) < n1 := by omega
  have i2 : ¬ (200 : Int) < n2 := by omega
  have hw1 : ∀ i, i < n1 → (Lit.int .u8 (p1 i).2).wf = true := fun i hi => by obtain ⟨_, _, _, _, _, _, h⟩ := R1 i hi; exact h
  have hw2 : ∀ i, i < n2 → (Lit.int .u8 (p2 i).2).wf = true := fun i hi => by obtain ⟨_, _, _, _, _, _, h⟩ := R2 i hi; exact h
  have hwz : ∀ i, (Lit.int .u8 (laid ps m i)).wf = true := fun i => laid_wf (fun i hi => R.ok i hi) m (Nat.le_refl _) i
  have HW1 := Lib.hid hw1
  have HW2 := Lib.hid hw2
  have HWZ := Lib.hid hwz
  have RH := Lib.hid R
  have RH1 := Lib.hid R1
  have RH2 := Lib.hid R2
  clear R R1 R2 hw1 hw2 hwz
  go_enter Try.func4, Try.ntmps4
  go_wp2_with fail
  refine (liveR_any _).mono ?_
  rintro e w0 ⟨rfl, hB0⟩
  go_wp2_with fail
  refine (of_any A m c ps _ HM.out (RH.out.keep hB0)).mono ?_
  rintro e w1 ⟨k1, hres⟩
  have hs0 := hB0.size
  have hB1 := hB0.trans (k1.mono hs0)
  have hs1 := hB1.size
  rcases hres with ⟨j, hj, hbad, hgd, rfl⟩ | ⟨hall, g, mb, rfl, hg, hmb, hRD⟩
  · have kA : Below w1.heap.size w1 (w1.alloc (.cells #[.int .i64 1, .int .i64 j] 30)) := (Below.refl _ _).alloc (Nat.le_refl _) _
    have hFa : Blk (w1.alloc (.cells #[.int .i64 1, .int .i64 j] 30)) w1.heap.size 30 #[.int .i64 1, .int .i64 j] := Blk.new _ _ _
    have hB2 := hB1.trans (kA.mono hs1)
    have HR2 := Lib.hid (RH.out.keep hB2)
    have HFA := Lib.hid hFa
    have HJ := Lib.hid hj
    have HG := Lib.hid (And.intro hbad hgd)
    clear hFa kA k1 hj hbad hgd hB0 hB1
    go_wp2_with fail
    refine (rof_any A m c ps _ HM.out HR2.out).mono ?_
    rintro e w2 ⟨k2, hres⟩
    have hB3 := hB2.trans (k2.mono hB2.size)
    have hF2 := HFA.out.below k2 HFA.out.lt
    rcases hres with ⟨j2, hj2, hbad2, hgd2, rfl⟩ | ⟨hall2, _⟩
    · obtain rfl : j2 = j := by
        rcases Nat.lt_trichotomy j2 j with h | h | h
        · exact absurd (HG.out.2 j2 h) hbad2
        · exact h
        · exact absurd (hgd2 j h) HG.out.1
      have d0 : w2.cell? ⟨w1.heap.size, 0, none⟩ = some (.int .i64 1) := hF2.cell 0
      have d1 : w2.cell? ⟨w1.heap.size, 1, none⟩ = some (.int .i64 j2) := hF2.cell 1
      have hl := hF2.lt
      clear hF2 k2 hbad2 hgd2 HG HFA
      go_wp2_with fail
      go_ret
      exact ⟨by simp, hB3.alloc hB3.size _⟩
    · exact absurd (hall2 j HJ.out) HG.out.1
  · have kA : Below w1.heap.size w1 (w1.alloc (.cells #[.int .i64 0, .int .i64 0] 30)) := (Below.refl _ _).alloc (Nat.le_refl _) _
    have hFa : Blk (w1.alloc (.cells #[.int .i64 0, .int .i64 0] 30)) w1.heap.size 30 #[.int .i64 0, .int .i64 0] := Blk.new _ _ _
    have hB2 := hB1.trans (kA.mono hs1)
    have HR2 := Lib.hid (RH.out.keep hB2)
    have HFA := Lib.hid hFa
    have HM2 := Lib.hid (hRD.keep kA)
    have HALL := Lib.hid hall
    have hgW : W.heap.size ≤ g := by omega
    have hmW : ∀ b, mb = some b → W.heap.size ≤ b := fun b e => by have := hmb b e; omega
    clear hFa kA k1 hall hRD hg hmb hB0 hB1
    go_wp2_with fail
    refine (rof_any A m c ps _ HM.out HR2.out).mono ?_
    rintro e w2 ⟨k2, hres⟩
    have hs2 := hB2.size
    have hB3 := hB2.trans (k2.mono hs2)
    have hF2 := HFA.out.below k2 HFA.out.lt
    have hM3 := HM2.out.keep k2
    rcases hres with ⟨j2, hj2, hbad2, hgd2, rfl⟩ | ⟨_, gp, C, rfl, hgp, hC, hBA⟩
    · exact absurd (HALL.out j2 hj2) hbad2
    have d0 : w2.cell? ⟨w1.heap.size, 0, none⟩ = some (.int .i64 0) := hF2.cell 0
    have d1 : w2.cell? ⟨w1.heap.size, 1, none⟩ = some (.int .i64 0) := hF2.cell 1
    have hl := hF2.lt
    have hs3 := hB3.size
    have kC : Below w2.heap.size w2 (w2.alloc (.cells #[.int .i64 0, .int .i64 0] 30)) := (Below.refl _ _).alloc (Nat.le_refl _) _
    have hB4 := hB3.trans (kC.mono hs3)
    have hgpW : W.heap.size ≤ gp := by omega
    have HBo : Hid (Both (w2.alloc (.cells #[.int .i64 0, .int .i64 0] 30)) g gp mb (laid ps m)) := Lib.hid ⟨hM3.keep kC, C, hC.below kC hC.lt, hBA.2⟩
    have HB4 := Lib.hid hB4
    clear hF2 k2 hM3 hC hBA HFA HM2 HR2 hB2 hB3 hB4 kC
    go_wp2_with fail
    refine (writes_any (cp := 8192) (c := c1) HBo.out HB4.out RH1.out ⟨hgW, hgpW, hmW⟩ (by omega)).mono ?_
    rintro e w3 ⟨rfl, hB5, k5, mb5, hBo5, hgr⟩
    obtain ⟨F, hF⟩ : ∃ F, fws (laid ps m) p1 n1 = F := ⟨_, rfl⟩
    have hFw : ∀ i, (Lit.int .u8 (F i)).wf = true := fun i => by rw [← hF]; exact fws_wf HWZ.out HW1.out n1 (Nat.le_refl _) i
    rw [hF] at hBo5
    have HFW := Lib.hid hFw
    have HB5 := Lib.hid hB5
    have HBo5 := Lib.hid hBo5
    have hs5 := hB5.size
    clear k5 hF hFw hBo5 hB5 hgr HBo HB4
    go_wp2_with fail
    refine (rclone_any HBo5.out.1).mono ?_
    rintro e w4 ⟨gd, mbd, rfl, hgd, hmbd, hD, hM6, k6⟩
    have hB6 := HB5.out.trans (k6.mono hs5)
    have hs6 := hB6.size
    obtain ⟨C6, hC6, hA6⟩ := HBo5.out.2
    have hC6' := hC6.below k6 hC6.lt
    have hI6 := BAt.row hC6' hA6 HFW.out
    have hl3 : g < w3.heap.size ∧ gp < w3.heap.size := ⟨HBo5.out.1.1.lt, hC6.lt⟩
    have hl3b := (rd_lt HBo5.out.1).2
    obtain ⟨gv, cv, w5, hrun, v1, v2, ⟨Cv, v3, v4⟩, v5, v6⟩ := clone_fresh (c := 8192) hI6
    have hs4 := k6.size
    have hB7 := hB6.trans (v6.mono hs6)
    have HD7 : Hid (Both w5 gd gv mbd F) := Lib.hid ⟨hD.keep v6, Cv, v3, v4⟩
    have HM7 : Hid (Both w5 g gp mb5 F) := Lib.hid ⟨hM6.keep v6, C6, hC6'.below v6 hC6'.lt, hA6⟩
    have HB7 := Lib.hid hB7
    have nL : ∀ x ∈ gd :: gv :: mbd.toList, w3.heap.size ≤ x := fun x hx => by
      rcases List.mem_cons.1 hx with rfl | hx
      · omega
      · rcases List.mem_cons.1 hx with rfl | hx
        · omega
        · exact hmbd x (by simpa using hx)
    have NL := Lib.hid nL
    have HL3 := Lib.hid hl3b
    clear hD hM6 k6 hB6 hC6 hA6 hC6' hI6 v3 v4 v6 hB7 nL hl3b HBo5 HB5
    go_wp2_with (at_builtin; refine wpList_append_run rfl (.tmp 52) (.tmp 53) 23 rfl rfl rfl hrun ?_)
    refine (writes_any (cp := cv) (c := c2) HD7.out HB7.out RH2.out ⟨by omega, by omega, fun b e => by have := hmbd b e; omega⟩ (by omega)).mono ?_
    rintro e w6 ⟨rfl, hB8, k8, mb8, hBo8, _⟩
    obtain ⟨G, hG⟩ : ∃ G, fws F p2 n2 = G := ⟨_, rfl⟩
    have hGw : ∀ i, (Lit.int .u8 (G i)).wf = true := fun i => by rw [← hG]; exact fws_wf HFW.out HW2.out n2 (Nat.le_refl _) i
    rw [hG] at hBo8
    have nM : ∀ x, x < w3.heap.size → x ∉ gd :: gv :: mbd.toList := fun x hx h => by have := NL.out x h; omega
    obtain ⟨hRM, CM, hCM, hAM⟩ := HM7.out
    have HM8 : Hid (Both w6 g gp mb5 F) := Lib.hid ⟨hRM.kp k8 (nM g hl3.1) (fun b e => nM b (HL3.out b e)), CM, hCM.kp k8 (nM gp hl3.2), hAM⟩
    have HD8 := Lib.hid hBo8
    have HGW := Lib.hid hGw
    have HB8 := Lib.hid hB8
    have KB : ∀ {w w' : World} {g gp : Nat} {mb : Option Nat} {f : Nat → Int}, Both w g gp mb f → Below w.heap.size w w' → Both w' g gp mb f := fun h k => by
      obtain ⟨h1, C, h2, h3⟩ := h
      exact ⟨h1.keep k, C, h2.below k h2.lt, h3⟩
    have hs8 := hB8.size
    clear hRM hCM hAM k8 hBo8 hGw hG hB8 nM hrun HM7 HD7 HB7
    go_wp2_with fail
    refine (alike_any (cp := 8192) HM8.out HFW.out (Nat.le_refl _) (by unfold maxLen; omega)).mono ?_
    rintro e w7 ⟨rfl, k9⟩
    have HM9 := Lib.hid (KB HM8.out k9)
    have HD9 := Lib.hid (KB HD8.out k9)
    have HB9 := Lib.hid (HB8.out.trans (k9.mono hs8))
    have hs9 := HB9.out.size
    clear k9 HM8 HD8 HB8
    go_wp2_with fail
    refine (alike_any (cp := cv) HD9.out HGW.out v1 v2).mono ?_
    rintro e w8 ⟨rfl, k10⟩
    have HM10 := Lib.hid (KB HM9.out k10)
    have HD10 := Lib.hid (KB HD9.out k10)
    have HB10 := Lib.hid (HB9.out.trans (k10.mono hs9))
    have hs10 := HB10.out.size
    clear k10 HM9 HD9 HB9
    go_wp2_with fail
    refine (other_any (a := F) (b := G) (.inr ⟨g, mb5, rfl, HM10.out.1⟩) (.inr ⟨gd, mb8, rfl, HD10.out.1⟩)).mono ?_
    rintro e w9 ⟨⟨r, rfl, hr⟩, k11⟩
    have HM11 := Lib.hid (KB HM10.out k11)
    have HD11 := Lib.hid (KB HD10.out k11)
    have HB11 := Lib.hid (HB10.out.trans (k11.mono hs10))
    have hs11 := HB11.out.size
    have HR := Lib.hid hr
    clear k11 HM10 HD10 HB10 hr
    go_wp2_with fail
    obtain ⟨_, CM, hCM, hAM⟩ := HM11.out
    obtain ⟨_, CD, hCD, hAD⟩ := HD11.out
    refine (rother_any _ _ 8192 cv F G (BAt.row hCM hAM HFW.out) (BAt.row hCD hAD HGW.out)).mono ?_
    clear hCM hAM hCD hAD
    rintro e w10 ⟨⟨r2, rfl, hr2⟩, k12⟩
    obtain rfl := first_uniq HR.out hr2
    have HM12 := Lib.hid (KB HM11.out k12)
    have HD12 := Lib.hid (KB HD11.out k12)
    have HB12 := Lib.hid (HB11.out.trans (k12.mono hs11))
    have hs12 := HB12.out.size
    clear k12 HM11 HD11 HB11 hr2
    go_wp2_with fail
    refine (rsame_any (a := F) (b := G) (.inr ⟨g, mb5, rfl, HM12.out.1⟩) (.inr ⟨gd, mb8, rfl, HD12.out.1⟩)).mono ?_
    rintro e w11 ⟨⟨r3, rfl, hr3⟩, k13⟩
    have HM13 := Lib.hid (KB HM12.out k13)
    have HD13 := Lib.hid (KB HD12.out k13)
    have HB13 := Lib.hid (HB12.out.trans (k13.mono hs12))
    have hs13 := HB13.out.size
    have HR3 := Lib.hid hr3
    clear k13 HM12 HD12 HB12 hr3
    go_wp2_with fail
    obtain ⟨_, CM2, hCM, hAM⟩ := HM13.out
    obtain ⟨_, CD2, hCD, hAD⟩ := HD13.out
    refine (rsameB_any _ _ 8192 cv F G (BAt.row hCM hAM HFW.out) (BAt.row hCD hAD HGW.out)).mono ?_
    clear hCM hAM hCD hAD
    rintro e w12 ⟨⟨r4, rfl, hr4⟩, k14⟩
    obtain rfl := first_uniq HR3.out hr4
    have HB14 := Lib.hid (HB13.out.trans (k14.mono hs13))
    clear k14 hr4
    go_wp2_with fail
    go_ret
    exact ⟨by simp, HB14.out⟩

theorem own : ownKnob Try.prog.godebug = none := by kernel_rfl
theorem laidOut : laidOutB Try.prog = true := by kernel_rfl
set_option maxRecDepth 100000 in
theorem lifted (os : Os) (started : os.Started) (H : Type) (enc : TypeId × Value → H) :
    ReturnsInHanded {} Try.checked os 4 .any (Rows.ramHoldsSpec.pre6 enc Try.prog Try.f4 Rows.ramHoldsRow.domain false) (Rows.ramHoldsSpec.post enc Try.prog Try.f4 false true false false) := by
  refine returnsInHanded_of_change (C := Try.checked) own started (by kernel_rfl) Try.func4
    (ChangeSpec.witness6 (enc := enc) (C := Try.checked) false ⟨#[], #[.slice none 0 0, .slice none 0 0, .slice none 0 0], []⟩ 8 (by kernel_rfl) (by kernel_rfl) (by kernel_rfl) (by kernel_rfl)) ?_
  intro W base args ds gs before hval0 hW _ _
  have hval : ∀ (j : Nat) t v, Try.f4.params[j]? = some t → args[j]? = some v → Value.okWide Try.prog W .any base t v := hval0
  have hW' := hW
  obtain ⟨p, q, hA0, hV, rfl, _, _⟩ := hW
  have hA : DataW.TrodAll enc Try.prog W 0 (fun _ => true) true Try.f4.params.toList args.toList ds p := hA0
  rw [Try.params4] at hA hval
  obtain ⟨v0, vs0, d0, ds0, p0, q0, hargs, rfl, rfl, h0, r0⟩ := trodAll_cons hA
  obtain ⟨v1, vs1, d1, ds1, p1, q1, rfl, rfl, rfl, h1, r1⟩ := trodAll_cons r0
  obtain ⟨v2, vs2, d2, ds2, p2, q2, rfl, rfl, rfl, h2, r2⟩ := trodAll_cons r1
  obtain ⟨rfl, rfl, rfl⟩ := trodAll_nil r2
  obtain rfl : args = #[v0, v1, v2] := by cases args; simp_all
  obtain ⟨rfl, rfl⟩ := trodVars_none hV
  obtain ⟨A0, n0, c0, z0, rfl, g0, m0, R0⟩ := slice_pieces Try.underlying22 Try.underlying25 (by kernel_rfl) (by kernel_rfl) Try.underlying3 Try.underlying23 Try.underlying5 (by kernel_rfl) (hval 0 22 v0 rfl rfl) h0
  obtain ⟨A1, n1, c1, z1, rfl, g1, m1, R1⟩ := slice_pairs Try.underlying34 Try.underlying49 (by kernel_rfl) (by kernel_rfl) Try.underlying47 Try.underlying5 (hval 1 34 v1 rfl rfl) h1
  obtain ⟨A2, n2, c2, z2, rfl, g2, m2, R2⟩ := slice_pairs Try.underlying34 Try.underlying49 (by kernel_rfl) (by kernel_rfl) Try.underlying47 Try.underlying5 (hval 2 34 v2 rfl rfl) h2
  clear hA0 hval0
  refine (walk A0 n0 c0 z0 g0 m0 R0 A1 n1 c1 z1 g1 m1 R1 A2 n2 c2 z2 g2 m2 R2).mono fun e W' ⟨he, hg⟩ => ?_
  subst he
  exact ⟨_, rfl, law_post rfl Try.underlying4 laidOut (by kernel_rfl) rfl hW' rfl hg⟩

theorem over : Rows.ramHoldsRow.holds Try.pinned (OpenSpec.ofChange Rows.ramHoldsSpec) :=
  OpenClaim.holds_of_wide 4 Try.f4 rfl rfl rfl rfl rfl rfl rfl ⟨rfl, rfl, rfl, rfl, rfl⟩ rfl rfl rfl rfl rfl (by kernel_rfl) Try.func4 (by kernel_rfl)
    (of_decide_eq_true (by kernel_rfl)) (by unfold Func.isWrapper; first | (rw [if_pos (by decide +kernel)]; kernel_rfl) | (rw [if_neg (by decide +kernel)]; exact ⟨rfl, rfl⟩))
    (fun os started H enc _ => lifted os started H enc)

theorem proved : Rows.RamHoldsSaid := over
#print axioms proved
end Go.Proofs.Ytfhndajhlpakoaa.ramHolds
