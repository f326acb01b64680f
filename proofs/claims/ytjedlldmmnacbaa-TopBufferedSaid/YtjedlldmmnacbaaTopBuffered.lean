/-
  For every input TopBuffered returns true, and each argument reads behind the call as it read before. No conditions.
-/
import Derived.Test.YtjedlldmmnacbaaRows
import Derived.Test.YtjedlldmmnacbaaG3
import Derived.Test.YtjedlldmmnacbaaLin9
import Derived.Test.YtjedlldmmnacbaaLat4
import Derived.Test.YtjedlldmmnacbaaG14
import Derived.Deep.Cut
import Derived.Deep.CutRange
import Derived.Deep.RegionHeld3
import Derived.Deep.RegionWith
import Derived.RegionTactic
import Derived.BigRegion
import Derived.LoopTactic
namespace Go.Proofs.Ytjedlldmmnacbaa.topBuffered
open Go.ChangeShapes Go.WideShapes Go.ChangeAt Go.RowKit
open Go.ChangeMaps (open_string)

set_option linter.unusedVariables false
set_option linter.unusedSimpArgs false
theorem good_of {n : Nat} {es : Nat → Iib} (h : (chk es n).1 = 0) (F : ∀ i, i < n → (Lit.int .i64 (es i).a).wf = true ∧ (Lit.int .u8 (es i).b).wf = true) : Good n es :=
  ⟨(chk_zero h).1, (chk_zero h).2.1, fun j hj => (bounds_u8 (F j hj).2).1⟩
/-- Four bits, one after the other. -/
def upW (u : Nat → Bool) : Nat → Int
  | 0 => 0
  | k + 1 => withI (upW u k) k (u k)
theorem upW_all : ∀ a b c d : Bool, (0 ≤ withI (withI (withI (withI 0 (0 : Nat) a) (1 : Nat) b) (2 : Nat) c) (3 : Nat) d ∧ withI (withI (withI (withI 0 (0 : Nat) a) (1 : Nat) b) (2 : Nat) c) (3 : Nat) d ≤ 255) ∧
    rbit (withI (withI (withI (withI 0 (0 : Nat) a) (1 : Nat) b) (2 : Nat) c) (3 : Nat) d) (0 : Nat) = a ∧ rbit (withI (withI (withI (withI 0 (0 : Nat) a) (1 : Nat) b) (2 : Nat) c) (3 : Nat) d) (1 : Nat) = b ∧
    rbit (withI (withI (withI (withI 0 (0 : Nat) a) (1 : Nat) b) (2 : Nat) c) (3 : Nat) d) (2 : Nat) = c ∧ rbit (withI (withI (withI (withI 0 (0 : Nat) a) (1 : Nat) b) (2 : Nat) c) (3 : Nat) d) (3 : Nat) = d := by decide +kernel
theorem upW_bd (u : Nat → Bool) : 0 ≤ upW u 4 ∧ upW u 4 ≤ 255 := (upW_all (u 0) (u 1) (u 2) (u 3)).1
theorem upW_bit (u : Nat → Bool) (i : Nat) (h : i < 4) : rbit (upW u 4) i = u i := by
  have := (upW_all (u 0) (u 1) (u 2) (u 3)).2
  have hi : i = 0 ∨ i = 1 ∨ i = 2 ∨ i = 3 := by omega
  rcases hi with rfl | rfl | rfl | rfl
  · exact this.1
  · exact this.2.1
  · exact this.2.2.1
  · exact this.2.2.2
theorem bit15 : ∀ i : Nat, i < 8 → rbit 15 i = decide (i < 4) := by decide +kernel
set_option maxRecDepth 100000 in
set_option maxHeartbeats 8000000 in
theorem walk {W : World} (A : Option Addr) (n c : Nat) (es : Nat → Iib) (hnc : n ≤ c) (hm : c ≤ maxLen) (R : FRow W 3 A n (fun i => iibV .i64 .u8 (es i))) (F : ∀ i, i < n → (Lit.int .i64 (es i).a).wf = true ∧ (Lit.int .u8 (es i).b).wf = true) (N : A = none → n = 0 ∧ c = 0) (t : Int) (wt : (Lit.int .i64 t).wf = true) (v : Int) (wv : (Lit.int .u8 v).wf = true) :
    Calls Try.prog 10 #[.slice A n c, .int .i64 t, .int .u8 v] W fun e w' => e = .returned (.bool true) ∧ Below W.heap.size W w' := by
  unfold maxLen at hm
  have HR : Hid (ERow W A n es) := Lib.hid R
  have HN := Lib.hid N
  have HF := Lib.hid F
  have hn : n ≤ 9223372036854775807 := by omega
  obtain ⟨v0, v1⟩ := bounds_u8 wv
  clear R F N wt wv
  obtain ⟨⟨a, b⟩, hr⟩ : ∃ r, chk es n = r := ⟨_, rfl⟩
  have HC := Lib.hid hr
  have hz : a = 0 → b = 0 := fun h => by
    have := (chk_zero (es := es) (n := n) (by rw [hr]; exact h)).2.2
    rw [hr] at this
    exact (Prod.mk.inj this).2
  have HZ := Lib.hid hz
  clear hr hz
  have nv : (v != v) = false := by simp
  go_enter Try.func10, Try.ntmps10
  go_wp2_with fail
  refine (asV (bit_any 1 0 _) (show Value.bool (bitB 1 0) = .bool true from by rw [show bitB 1 0 = true by decide])).mono ?_
  rintro e w' ⟨rfl, rfl⟩
  go_wp2_with fail
  refine (lnew_any _ _).mono ?_
  rintro e w' ⟨rfl, rfl⟩
  have HB1 : Hid (Below W.heap.size W (W.alloc (.cells #[.int .u8 v] 77))) := Lib.hid ((Below.refl _ _).alloc (Nat.le_refl _) _)
  have HL1 : Hid (LT (W.alloc (.cells #[.int .u8 v] 77)) W.heap.size v) := Lib.hid (Blk.new W _ _)
  obtain ⟨gl, hgl⟩ : ∃ q, W.heap.size = q := ⟨_, rfl⟩
  have HGL := Lib.hid hgl
  have hWl : W.heap.size ≤ gl := by omega
  rw [hgl] at HL1
  rw [hgl]
  clear hgl
  generalize W.alloc _ = w1 at *
  go_wp2_with fail
  refine (value_any HL1.out).mono ?_
  rintro e w' ⟨rfl, rfl⟩
  go_wp2_with fail
  by_cases h0 : a = 0
  · obtain rfl := h0
    obtain rfl := HZ.out rfl
    have hgood : Good n es := good_of (by rw [HC.out]) HF.out
    have HGo := Lib.hid hgood
    refine (lnew_yes HN.out (FRow.keep HR.out HB1.out) hn (by rw [HC.out])).mono ?_
    rintro e w4 ⟨g, rfl, hg, h4, b4⟩
    have HB4 := Lib.hid (HB1.out.trans (b4.mono HB1.out.size))
    have H4 := Lib.hid h4
    have HL4 : Hid (LT w4 gl v) := Lib.hid (Blk.below HL1.out b4 HL1.out.lt)
    have hlg : gl < g := by have := HL1.out.lt; omega
    clear h4 b4 HB1 hgood hg HL1
    go_wp2_with fail
    have hB5 : Below w4.heap.size w4 (w4.alloc (.cells #[.int .i64 0, .int .i64 0] 26)) := (Below.refl _ _).alloc (Nat.le_refl _) _
    have HB5 := Lib.hid (HB4.out.trans (hB5.mono HB4.out.size))
    have H5 := Lib.hid (H4.out.keep hB5)
    have HL5 : Hid (LT _ gl v) := Lib.hid (Blk.below HL4.out hB5 HL4.out.lt)
    clear HB4 H4 hB5 HL4
    generalize w4.alloc _ = w5 at *
    obtain ⟨s, hs⟩ : ∃ q, pass es n t 0 = q := ⟨_, rfl⟩
    refine (to_v (s' := s) H5.out HGo.out hs rfl).mono ?_
    rintro e w6 ⟨rfl, h6, k6⟩
    have H6 := Lib.hid h6
    have HB6 := Lib.hid (k6.onto HB5.out HB5.out.size (by simp; omega))
    have HL6 : Hid (LT w6 gl v) := Lib.hid (Blk.kp HL5.out k6 (by simp; omega))
    have HS := Lib.hid hs
    clear h6 k6 HB5 H5 HL5 hs
    go_wp2_with fail
    go_loop [10, 11] (fun q i => ∃ k : Nat, k ≤ 4 ∧ i = .int .i64 k ∧ q = .int .u8 (upW (upV es s) k)) (fun _ i => 4 - (intOf i).toNat)
    case atStart => exact ⟨0, by omega, rfl, rfl⟩
    case round =>
      obtain ⟨k, hk, rfl, rfl⟩ := hrel
      by_cases hlt : k < 4
      · have hw : IntKind.u8.wrap (k : Int) = k := by rw [IntKind.wrap_u8]; omega
        obtain ⟨x, hx⟩ : ∃ x, upW (upV es s) k = x := ⟨_, rfl⟩
        have hx2 : upW (upV es s) (k + 1) = withI x k (upV es s k) := by simp only [upW, hx]
        have HX2 := Lib.hid hx2
        rw [hx]
        clear hx hx2
        go_wp2_with fail
        refine (up_any H6.out k (by omega)).mono ?_
        rintro e w' ⟨rfl, rfl⟩
        go_wp2_with fail
        refine (with_any _ _ _ _).mono ?_
        rintro e w' ⟨rfl, rfl⟩
        clear hw
        go_wp2_with fail
        go_round
        case rel => exact ⟨k + 1, by omega, by go_num, by rw [HX2.out]⟩
        case measure => simp [intOf]; omega
      · obtain rfl : k = 4 := by omega
        obtain ⟨u0, u1⟩ := upW_bd (upV es s)
        have HU : Hid (∀ i : Nat, i < 4 → rbit (upW (upV es s) 4) i = upTo es s i) := Lib.hid fun i hi => by
          rw [upW_bit _ i hi]; unfold upV; rw [if_pos hi]
        obtain ⟨x, hx⟩ : ∃ x, upW (upV es s) 4 = x := ⟨_, rfl⟩
        rw [hx] at u0 u1 HU
        rw [hx]
        clear hx
        go_wp2_with fail
        refine (lread_any HL6.out 15 x).mono ?_
        have HV : Hid (∀ i : Nat, i < 8 → rbit (mixI v 15 x) i = if i < 4 then upTo es s i else rbit v i) := Lib.hid fun i hi => by
          rw [mix_bit v 15 x v0 v1 (by decide) (by decide) u0 u1 i hi, bit15 i hi]
          by_cases h4 : i < 4
          · rw [if_pos (by simpa using h4), if_pos h4, HU.out i h4]
          · rw [if_neg (by simpa using h4), if_neg h4]
        obtain ⟨y0, y1⟩ := mix_byte v 15 x v0 v1 (by decide) (by decide) u0 u1
        obtain ⟨y, hy⟩ : ∃ y, mixI v 15 x = y := ⟨_, rfl⟩
        rw [hy] at HV y0 y1
        rw [hy]
        clear hy HU
        rintro e w7 ⟨rfl, l7, k7⟩
        have HL7 := Lib.hid l7
        have HB7 := Lib.hid (k7.onto HB6.out HB6.out.size (by simpa using hWl))
        clear l7 k7 HB6 HL6 H6
        go_wp2_with fail
        go_loopw [13] (fun i wr => ∃ k : Nat, k ≤ 8 ∧ i = .int .i64 k ∧ LT wr gl y ∧ Below W.heap.size W wr) (fun i _ => 8 - (intOf i).toNat)
        case atStart => exact ⟨0, by omega, rfl, HL7.out, HB7.out⟩
        case round =>
          obtain ⟨j, hj, rfl, hL, hB⟩ := hrel
          have HLr := Lib.hid hL
          have HBr := Lib.hid hB
          clear hL hB HL7 HB7
          by_cases hjt : j < 8
          · have hbv := lat_bit v v0 v1 j hjt
            have hby := lat_bit y y0 y1 j hjt
            rw [HV.out j hjt] at hby
            have HBV := Lib.hid hbv
            by_cases hj4 : j < 4
            · have hw : IntKind.u8.wrap (j : Int) = j := by rw [IntKind.wrap_u8]; omega
              obtain ⟨z, hz⟩ : ∃ z, upTo es s j = z := ⟨_, rfl⟩
              rw [if_pos hj4, hz] at hby
              have HBY := Lib.hid hby
              have HZ2 := Lib.hid hz
              have nz : (z != z) = false := by simp
              have j4 : (j : Int) < 4 := by omega
              clear hbv hby hz
              go_wp2_with fail
              refine (bit_any _ _ _).mono ?_
              rintro e w' ⟨rfl, rfl⟩
              go_wp2_with fail
              refine (at_v (b := z) (FRow.keep HR.out HBr.out) hn (by rw [HS.out]; exact HZ2.out)).mono ?_
              rintro e w8 ⟨rfl, h8⟩
              have HB8 := Lib.hid (HBr.out.trans (h8.mono HBr.out.size))
              have HL8 : Hid (LT w8 gl y) := Lib.hid (Blk.below HLr.out h8 HLr.out.lt)
              clear h8 hw
              go_wp2_with fail
              refine (asV (bit_any _ _ _) (by rw [HBY.out])).mono ?_
              rintro e w' ⟨rfl, rfl⟩
              go_wp2_with fail
              go_roundw
              case rel => exact ⟨j + 1, by omega, by go_num, HL8.out, HB8.out⟩
              case measure => simp [intOf]; omega
            · rw [if_neg hj4] at hby
              obtain ⟨z, hz⟩ : ∃ z, rbit v j = z := ⟨_, rfl⟩
              rw [hz] at hby hbv
              have HBY := Lib.hid hby
              have HBV2 := Lib.hid hbv
              have nz : (z != z) = false := by simp
              have j4 : ¬ (j : Int) < 4 := by omega
              clear hbv hby hz HBV
              go_wp2_with fail
              refine (asV (bit_any _ _ _) (by rw [HBV2.out])).mono ?_
              rintro e w' ⟨rfl, rfl⟩
              go_wp2_with fail
              refine (asV (bit_any _ _ _) (by rw [HBY.out])).mono ?_
              rintro e w' ⟨rfl, rfl⟩
              go_wp2_with fail
              go_roundw
              case rel => exact ⟨j + 1, by omega, by go_num, HLr.out, HBr.out⟩
              case measure => simp [intOf]; omega
          · obtain rfl : j = 8 := by omega
            go_wp2_with fail
            refine (value_any HLr.out).mono ?_
            rintro e w' ⟨rfl, rfl⟩
            go_wp2_with fail
            go_ret
            exact ⟨by simp, HBr.out⟩
  · have hne : (a != 0) = true := by simpa using h0
    have hna : (a == a) = true := by simp
    have hnb : (b == b) = true := by simp
    refine (lnew_no (FRow.keep HR.out HB1.out) hn (by rw [HC.out]; exact h0)).mono ?_
    rw [HC.out]
    rintro e w4 ⟨rfl, b4⟩
    have HB4 := Lib.hid (HB1.out.trans (b4.mono HB1.out.size))
    clear b4 HB1 HL1
    go_wp2_with fail
    have HB5 := Lib.hid (HB4.out.alloc HB4.out.size (.cells #[.int .i64 a, .int .i64 b] 26))
    have HF5 := Lib.hid (Blk.new w4 26 #[.int .i64 a, .int .i64 b])
    clear HB4
    generalize w4.alloc _ = w5 at *
    generalize w4.heap.size = g5 at *
    have SW : Hid (∀ wx, Below w5.heap.size w5 wx → wx.cell? ⟨g5, 0, none⟩ = some (.int .i64 a) ∧ wx.cell? ⟨g5, 1, none⟩ = some (.int .i64 b)) := Lib.hid fun wx k =>
      ⟨(HF5.out.below k HF5.out.lt).cell 0, (HF5.out.below k HF5.out.lt).cell 1⟩
    refine rg_begin (S := fun w' => w'.cell? ⟨g5, 0, none⟩ = some (.int .i64 a) ∧ w'.cell? ⟨g5, 1, none⟩ = some (.int .i64 b)) 9 #[false, false, false, false, false, false, false, false, false] (by kernel_rfl) (by kernel_rfl) (by kernel_rfl) ?_ (fun hHeld => ?_)
    · exact SW.out _ (Below.refl _ _).drew
    refine rg_take (i := 0) (d := some 35) (l := #[true, false, false, false, false, false, false, false, false]) (fuel := 8) (v := ?_) rfl (by kernel_rfl) (by kernel_rfl) (by kernel_rfl) (by kernel_rfl) (by kernel_rfl) (fun _ _ _ h => h) (by kernel_rfl) ?_ (by assumption) ?_
    rotate_left 1
    · (intro wS hSw; (try dsimp only at hSw); go_simp; try with_reducible rfl)
    try simp only [Act.put, List.setIfInBounds_toArray, List.set_cons_zero, List.set_cons_succ]
    refine rg_take (i := 1) (d := some 36) (l := #[true, true, false, false, false, false, false, false, false]) (fuel := 7) (v := ?_) rfl (by kernel_rfl) (by kernel_rfl) (by kernel_rfl) (by kernel_rfl) (by kernel_rfl) (fun _ _ _ h => h) (by kernel_rfl) ?_ (by assumption) ?_
    rotate_left 1
    · (intro wS hSw; (try dsimp only at hSw); go_simp; try with_reducible rfl)
    try simp only [Act.put, List.setIfInBounds_toArray, List.set_cons_zero, List.set_cons_succ]
    refine rg_take (i := 2) (d := some 37) (l := #[true, true, true, false, false, false, false, false, false]) (fuel := 6) (v := ?_) rfl (by kernel_rfl) (by kernel_rfl) (by kernel_rfl) (by kernel_rfl) (by kernel_rfl) (fun _ _ _ h => h) (by kernel_rfl) ?_ (by assumption) ?_
    rotate_left 1
    · (intro wS hSw; (try dsimp only at hSw); go_simp; try with_reducible rfl)
    try simp only [Act.put, List.setIfInBounds_toArray, List.set_cons_zero, List.set_cons_succ]
    refine rg_take (i := 3) (d := some 38) (l := #[true, true, true, true, false, false, false, false, false]) (fuel := 5) (v := ?_) rfl (by kernel_rfl) (by kernel_rfl) (by kernel_rfl) (by kernel_rfl) (by kernel_rfl) (fun _ _ _ h => h) (by kernel_rfl) ?_ (by assumption) ?_
    rotate_left 1
    · (intro wS hSw; (try dsimp only at hSw); go_simp; try with_reducible rfl)
    try simp only [Act.put, List.setIfInBounds_toArray, List.set_cons_zero, List.set_cons_succ]
    refine rg_take (i := 5) (d := some 40) (l := #[true, true, true, true, false, true, false, false, false]) (fuel := 4) (v := ?_) rfl (by kernel_rfl) (by kernel_rfl) (by kernel_rfl) (by kernel_rfl) (by kernel_rfl) (fun _ _ _ h => h) (by kernel_rfl) ?_ (by assumption) ?_
    rotate_left 1
    · (intro wS hSw; (try dsimp only at hSw); go_simp; try with_reducible rfl)
    try simp only [Act.put, List.setIfInBounds_toArray, List.set_cons_zero, List.set_cons_succ]
    refine rg_next (i := 4) (l := #[true, true, true, true, true, true, false, false, false]) (fuel := 3) (by kernel_rfl) rfl (by kernel_rfl) (by kernel_rfl) (fun K hK => ?_)
    go_simp
    (go_at_call 14)
    refine (check_v (w := w5.drew) (FRow.keep HR.out HB5.out.drew) hn HC.out).mono ?_
    rintro e wx ⟨rfl, k1⟩
    have HX : Hid (Below w5.heap.size w5 wx) := Lib.hid ((Below.refl _ _).drew.trans k1)
    have HB6 : Hid (Below W.heap.size W wx) := Lib.hid (HB5.out.trans (HX.out.mono HB5.out.size))
    clear k1
    first | (refine hK.out _ _ ?_ (fun hHeld => ?_)) | (go_wp2_with fail; refine hK.out _ _ ?_ (fun hHeld => ?_))
    · (try dsimp only); exact SW.out _ HX.out
    clear hK K
    try simp only [Act.put, List.setIfInBounds_toArray, List.set_cons_zero, List.set_cons_succ]
    refine rg_take (i := 6) (d := some 41) (l := #[true, true, true, true, true, true, true, false, false]) (fuel := 2) (v := ?_) rfl (by kernel_rfl) (by kernel_rfl) (by kernel_rfl) (by kernel_rfl) (by kernel_rfl) (fun _ _ _ h => h) (by kernel_rfl) ?_ (by assumption) ?_
    rotate_left 1
    · (intro wS hSw; (try dsimp only at hSw); go_simp; try with_reducible rfl)
    try simp only [Act.put, List.setIfInBounds_toArray, List.set_cons_zero, List.set_cons_succ]
    refine rg_take (i := 7) (d := some 42) (l := #[true, true, true, true, true, true, true, true, false]) (fuel := 1) (v := ?_) rfl (by kernel_rfl) (by kernel_rfl) (by kernel_rfl) (by kernel_rfl) (by kernel_rfl) (fun _ _ _ h => h) (by kernel_rfl) ?_ (by assumption) ?_
    rotate_left 1
    · (intro wS hSw; (try dsimp only at hSw); go_simp; try with_reducible rfl)
    try simp only [Act.put, List.setIfInBounds_toArray, List.set_cons_zero, List.set_cons_succ]
    refine rg_take (i := 8) (d := some 6) (l := #[true, true, true, true, true, true, true, true, true]) (fuel := 0) (v := ?_) rfl (by kernel_rfl) (by kernel_rfl) (by kernel_rfl) (by kernel_rfl) (by kernel_rfl) (fun _ _ _ h => h) (by kernel_rfl) ?_ (by assumption) ?_
    rotate_left 1
    · (intro wS hSw; (try dsimp only at hSw); go_simp; try with_reducible rfl)
    try simp only [Act.put, List.setIfInBounds_toArray, List.set_cons_zero, List.set_cons_succ]
    refine wpAnyH_done (by kernel_rfl) ?_ _
    go_wp2_with fail
    go_ret
    exact ⟨by simp, HB6.out⟩

theorem own : ownKnob Try.prog.godebug = none := by kernel_rfl
theorem laidOut : laidOutB Try.prog = true := by kernel_rfl
set_option maxRecDepth 100000 in
theorem lifted (os : Os) (started : os.Started) (H : Type) (enc : TypeId × Value → H) :
    ReturnsInHanded {} Try.checked os 10 .any (Rows.topBufferedSpec.pre6 enc Try.prog Try.f10 Rows.topBufferedRow.domain false) (Rows.topBufferedSpec.post enc Try.prog Try.f10 false true false false) := by
  refine returnsInHanded_of_change (C := Try.checked) own started (by kernel_rfl) Try.func10
    (ChangeSpec.witness6 (enc := enc) (C := Try.checked) false ⟨#[], #[.slice none 0 0, .int .i64 0, .int .u8 0], []⟩ 8 (by kernel_rfl) (by kernel_rfl) (by kernel_rfl) (by kernel_rfl)) ?_
  intro W base args ds gs before hval0 hW _ _
  have hval : ∀ (j : Nat) t v, Try.f10.params[j]? = some t → args[j]? = some v → Value.okWide Try.prog W .any base t v := hval0
  have hW' := hW
  obtain ⟨p, q, hA0, hV, rfl, _, _⟩ := hW
  have hA : DataW.TrodAll enc Try.prog W 0 (fun _ => true) true Try.f10.params.toList args.toList ds p := hA0
  rw [Try.params10] at hA hval
  obtain ⟨v0, vs0, d0, ds0, p0, q0, hargs, rfl, rfl, h0, r0⟩ := trodAll_cons hA
  obtain ⟨v1, vs1, d1, ds1, p1, q1, rfl, rfl, rfl, h1, r1⟩ := trodAll_cons r0
  obtain ⟨v2, vs2, d2, ds2, p2, q2, rfl, rfl, rfl, h2, r2⟩ := trodAll_cons r1
  obtain ⟨rfl, rfl, rfl⟩ := trodAll_nil r2
  obtain rfl : args = #[v0, v1, v2] := by cases args; simp_all
  obtain ⟨rfl, rfl⟩ := trodVars_none hV
  obtain ⟨A0, n0, c0, z0, rfl, g0, m0, R0, F0, N0⟩ := slice_iib Try.underlying22 Try.underlying65 (by kernel_rfl) (by kernel_rfl) Try.underlying2 Try.underlying5 Try.underlying4 (hval 0 22 v0 rfl rfl) h0
  obtain ⟨a1, rfl, rfl, rfl, w1⟩ := open_int Try.underlying2 (hval 1 2 v1 rfl rfl) h1
  obtain ⟨a2, rfl, rfl, rfl, w2⟩ := open_int Try.underlying5 (hval 2 5 v2 rfl rfl) h2
  clear hA0 hval0
  refine (walk A0 n0 c0 z0 g0 m0 R0 F0 N0 a1 w1 a2 w2).mono fun e W' ⟨he, hg⟩ => ?_
  subst he
  exact ⟨_, rfl, law_post rfl Try.underlying4 laidOut (by kernel_rfl) rfl hW' rfl hg⟩

theorem over : Rows.topBufferedRow.holds Try.pinned (OpenSpec.ofChange Rows.topBufferedSpec) :=
  OpenClaim.holds_of_wide 10 Try.f10 rfl rfl rfl rfl rfl rfl rfl ⟨rfl, rfl, rfl, rfl, rfl⟩ rfl rfl rfl rfl rfl (by kernel_rfl) Try.func10 (by kernel_rfl)
    (of_decide_eq_true (by kernel_rfl)) (by unfold Func.isWrapper; first | (rw [if_pos (by decide +kernel)]; kernel_rfl) | (rw [if_neg (by decide +kernel)]; exact ⟨rfl, rfl⟩))
    (fun os started H enc _ => lifted os started H enc)

theorem proved : Rows.TopBufferedSaid := over
#print axioms proved
end Go.Proofs.Ytjedlldmmnacbaa.topBuffered
