/-
  Layer 16: both sides as one complex number: parts, conjugate, together.
-/
import Derived.Test.YtaamfcbpelbboaaDoorMix2
import Derived.Test.YtaamfcbpelbboaaDoorG21
import Derived.Deep.Cut
import Derived.Deep.CutRange
namespace Go.Proofs.YtaamfcbpelbboaaDoor
open Go.RowKit
set_option linter.unusedVariables false
set_option linter.unusedSimpArgs false
set_option maxRecDepth 100000
theorem conv_fi {a : Nat} {n : Int} (h : IsI a n) (w : World) : (convert 82 3 (.float .f64 a)).run Tryd.prog w = .ok (.int .i64 n) w :=
  run_convert_float_int w 82 3 .f64 .i64 a n (by rw [Tryd.underlying82]; rfl) Tryd.underlying3 (isI_toInt h)
theorem conv_if (n : Int) (w : World) : (convert 3 82 (.int .i64 n)).run Tryd.prog w = .ok (.float .f64 (floatOfInt .f64 n)) w :=
  run_convert_int_float w 3 82 .i64 .f64 n (by rw [Tryd.underlying3]; rfl) Tryd.underlying82
theorem parts_any {a b : Nat} {x y : Int} (ha : IsI a x) (hb : IsI b y) (w : World) : Calls Tryd.prog 28 #[.complex .f64 a b] w fun e w' => e = .returned (.tuple #[.int .i64 x, .int .i64 y]) ∧ w = w' := by
  have ca := conv_fi ha
  have cb := conv_fi hb
  clear ha hb
  go_enter Tryd.func28, Tryd.ntmps28
  go_wp2
  go_ret2
  exact ⟨rfl, rfl⟩
theorem conj_any (a b : Nat) (w : World) : Calls Tryd.prog 30 #[.complex .f64 a b] w fun e w' => e = .returned (.complex .f64 a (Op.negFloat .f64 b)) ∧ w = w' := by
  have hn : ∀ w, (Op.unary .neg (.float .f64 b)).run Tryd.prog w = .ok (.float .f64 (Op.negFloat .f64 b)) w := fun _ => rfl
  go_enter Tryd.func30, Tryd.ntmps30
  go_wp2
  go_ret
  exact ⟨rfl, rfl⟩
/-- So many voices lie at A. -/
def VR (w : World) (A : Option Addr) (n : Nat) (v : Nat → Vc) : Prop := FRow w 4 A n (fun i j => .int .u8 ((v i).fld j)) ∧ ∀ i, i < n → (v i).ok
theorem VR.keep {w w' : World} {A : Option Addr} {n : Nat} {v : Nat → Vc} (h : VR w A n v) (hb : Below w.heap.size w w') : VR w' A n v := ⟨h.1.keep hb, h.2⟩
/-- The cells of one voice, as a walk spells them. -/
theorem VR.at_ {w : World} {A : Option Addr} {n : Nat} {v : Nat → Vc} (h : VR w A n v) (i : Nat) (hi : i < n) : ∃ ad : Addr, A = some ad ∧ ad.block < w.heap.size ∧ w.cell? (ad.add (i * 4)) = some (.int .u8 (v i).lv) ∧
    w.cell? ⟨(ad.add (i * 4)).block, (ad.add (i * 4)).off + 1, none⟩ = some (.int .u8 (v i).vo) ∧ w.cell? ⟨(ad.add (i * 4)).block, (ad.add (i * 4)).off + 2, none⟩ = some (.int .u8 (v i).lf) ∧ w.cell? ⟨(ad.add (i * 4)).block, (ad.add (i * 4)).off + 3, none⟩ = some (.int .u8 (v i).rt) ∧ (v i).ok := by
  obtain ⟨ad, e, hl, hc⟩ := h.1 i hi
  refine ⟨ad, e, hl, hc 0 (by decide), ?_, ?_, ?_, h.2 i hi⟩
  · have := hc 1 (by decide); rw [← add_of_add] at this; exact this
  · have := hc 2 (by decide); rw [← add_of_add] at this; exact this
  · have := hc 3 (by decide); rw [← add_of_add] at this; exact this
def lefts (v : Nat → Vc) (m : Int) : Nat → Int := sumTo fun i => (v i).left m
def rights (v : Nat → Vc) (m : Int) : Nat → Int := sumTo fun i => (v i).right m
theorem lefts_bd (v : Nat → Vc) (m : Int) (n : Nat) (h : n ≤ 300) : (lefts v m n).natAbs ≤ 38092800 := by
  have := sum_bd (f := fun i => (v i).left m) (n := n) fun i _ => side_bd _ _ _ _
  unfold lefts; omega
theorem rights_bd (v : Nat → Vc) (m : Int) (n : Nat) (h : n ≤ 300) : (rights v m n).natAbs ≤ 38092800 := by
  have := sum_bd (f := fun i => (v i).right m) (n := n) fun i _ => side_bd _ _ _ _
  unfold rights; omega
theorem tog_any {w : World} (hT : TabAt w 0 4 pw) {A : Option Addr} {n c : Nat} {v : Nat → Vc} (hV : VR w A n v) (hn : n ≤ 300) (l r : Int) (l0 : 0 ≤ l) (l1 : l ≤ 255) (r0 : 0 ≤ r) (r1 : r ≤ 255) :
    Calls Tryd.prog 29 #[.int .u8 l, .int .u8 r, .slice A n c] w fun e w' => ∃ a b, e = .returned (.complex .f64 a b) ∧ IsI a (lefts v l n) ∧ IsI b (rights v r n) ∧ Below w.heap.size w w' := by
  have HT := Lib.hid hT
  have HV := Lib.hid hV
  clear hT hV
  go_enter Tryd.func29, Tryd.ntmps29
  go_wp2_with fail
  go_loopw [7, 15] (fun z i wr => ∃ (k : Nat) (a b : Nat), k ≤ n ∧ i = .int .i64 k ∧ z = .complex .f64 a b ∧ IsI a (lefts v l k) ∧ IsI b (rights v r k) ∧ Below w.heap.size w wr) (fun _ i _ => n - (intOf i).toNat)
  case atStart => exact ⟨0, 0, 0, by omega, rfl, rfl, isI_zero, isI_zero, Below.refl _ _⟩
  case round =>
    obtain ⟨k, a, b, hk, rfl, rfl, ha, hb, hB⟩ := hrel
    by_cases hlt : k < n
    · have i1 : (k : Int) < n := by omega
      obtain ⟨ad, rfl, hl, q0, q1, q2, q3, ⟨a0, a1⟩, ⟨a2, a3⟩, ⟨a4, a5⟩, a6, a7⟩ := (HV.out.keep hB).at_ k hlt
      have hL : (v k).left l = sideOf (v k).lv (v k).vo (v k).lf l := rfl
      have hR : (v k).right r = sideOf (v k).lv (v k).vo (v k).rt r := rfl
      obtain ⟨lv, e0⟩ : ∃ x, (v k).lv = x := ⟨_, rfl⟩
      obtain ⟨vo, e1⟩ : ∃ x, (v k).vo = x := ⟨_, rfl⟩
      obtain ⟨lf, e2⟩ : ∃ x, (v k).lf = x := ⟨_, rfl⟩
      obtain ⟨rt, e3⟩ : ∃ x, (v k).rt = x := ⟨_, rfl⟩
      rw [e0] at q0 a0 a1 hL hR
      rw [e1] at q1 a2 a3 hL hR
      rw [e2] at q2 a4 a5 hL
      rw [e3] at q3 a6 a7 hR
      obtain ⟨s, hs⟩ : ∃ x, sideOf lv vo lf l = x := ⟨_, rfl⟩
      obtain ⟨t, ht⟩ : ∃ x, sideOf lv vo rt r = x := ⟨_, rfl⟩
      have hsb := hs ▸ side_bd lv vo lf l
      have htb := ht ▸ side_bd lv vo rt r
      rw [hs] at hL
      rw [ht] at hR
      have f1 : lefts v l (k + 1) = lefts v l k + s := by unfold lefts; rw [sumTo, hL]
      have f2 : rights v r (k + 1) = rights v r k + t := by unfold rights; rw [sumTo, hR]
      have hbd1 := lefts_bd v l k (by omega)
      have hbd2 := rights_bd v r k (by omega)
      obtain ⟨a', b', hadd, ha', hb'⟩ := isI_csum ha hb (isI_of s (by omega)) (isI_of t (by omega)) (by omega) (by omega)
      have cs := conv_if s
      have ct := conv_if t
      have hsum : ∀ w, (binOp .add 60 (.complex .f64 a b) (.complex .f64 (floatOfInt .f64 s) (floatOfInt .f64 t))).run Tryd.prog w = .ok (.complex .f64 a' b') w := fun w => run_complex_sum w .add (.inl rfl) _ _ _ _ _ _ _ _ hadd
      unfold sideOf at hs ht
      have hp1 := pwr_bd (lssOf vo lf l)
      have hp2 := pwr_bd (lssOf vo rt r)
      obtain ⟨p1, e4⟩ : ∃ x, pwr (lssOf vo lf l) = x := ⟨_, rfl⟩
      obtain ⟨p2, e5⟩ : ∃ x, pwr (lssOf vo rt r) = x := ⟨_, rfl⟩
      rw [e4] at hs hp1
      rw [e5] at ht hp2
      have HA := Lib.hid (f1 ▸ ha')
      have HC := Lib.hid (f2 ▸ hb')
      have HB := Lib.hid hB
      have E4 := Lib.hid e4
      have E5 := Lib.hid e5
      have HTk := Lib.hid (HT.out.below hB)
      clear ha hb ha' hb' hadd hB f1 f2 hL hR e0 e1 e2 e3 e4 e5 hbd1 hbd2
      go_wp2_with fail
      refine (mloss_any vo lf l a2 a3 a4 a5 l0 l1 _).mono ?_
      rintro e w' ⟨rfl, rfl⟩
      go_wp2_with fail
      refine (power_any (HTk.out.below ((Below.refl _ _).alloc (Nat.le_refl _) _)) _).mono ?_
      rw [E4.out]
      rintro e w' ⟨rfl, rfl⟩
      go_wp2_with fail
      refine (mloss_any vo rt r a2 a3 a6 a7 r0 r1 _).mono ?_
      rintro e w' ⟨rfl, rfl⟩
      go_wp2_with fail
      refine (power_any (HTk.out.below ((Below.refl _ _).alloc (Nat.le_refl _) _)) _).mono ?_
      rw [E5.out]
      rintro e w' ⟨rfl, rfl⟩
      go_wp2_with fail
      go_roundw
      case rel => exact ⟨k + 1, a', b', by omega, by go_num, rfl, HA.out, HC.out, HB.out.alloc HB.out.size _⟩
      case measure => simp [intOf]; omega
    · have i1 : ¬ (k : Int) < n := by omega
      have : k = n := by omega
      subst this
      have HA := Lib.hid ha
      have HC := Lib.hid hb
      have HB := Lib.hid hB
      clear ha hb hB
      go_wp2_with fail
      go_ret
      exact ⟨a, b, rfl, HA.out, HC.out, HB.out⟩
end Go.Proofs.YtaamfcbpelbboaaDoor
