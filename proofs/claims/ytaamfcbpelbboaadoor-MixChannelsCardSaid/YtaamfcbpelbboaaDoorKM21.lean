/-
  Texts of these proofs, one behind the other: Mix4, Psg4.
-/
import Derived.Test.YtaamfcbpelbboaaDoorKM20
import Derived.Test.YtaamfcbpelbboaaDoorKM07
import Derived.Test.YtaamfcbpelbboaaDoorKM15
import Derived.Test.YtaamfcbpelbboaaDoorKM17
namespace Go.Proofs.YtaamfcbpelbboaaDoor
open Go.RowKit
set_option linter.unusedVariables false
set_option linter.unusedSimpArgs false
set_option maxRecDepth 100000
theorem all_any {w : World} (hT : TabAt w 0 4 pw) {A : Option Addr} {n c : Nat} {v : Nat → Vc} (hV : VR w A n v) (hn : n ≤ 300) (l r : Int) (l0 : 0 ≤ l) (l1 : l ≤ 255) (r0 : 0 ≤ r) (r1 : r ≤ 255) :
    Calls Tryd.prog 14 #[.slice A n c, .int .u8 l, .int .u8 r] w fun e w' => e = .returned (.tuple #[.int .i64 (lefts v l n), .int .i64 (rights v r n)]) ∧ Below w.heap.size w w' := by
  go_enter Tryd.func14, Tryd.ntmps14
  go_wp2_with fail
  refine (tog_any hT hV hn l r l0 l1 r0 r1).mono ?_
  rintro e w' ⟨a, b, rfl, ha, hb, hB⟩
  have HB := Lib.hid hB
  have HA := Lib.hid ha
  have HC := Lib.hid hb
  clear ha hb hB
  go_wp2_with fail
  refine (parts_any HA.out HC.out _).mono ?_
  rintro e w' ⟨rfl, rfl⟩
  go_wp2_with fail
  go_ret2
  exact ⟨rfl, HB.out⟩
theorem turned_any {w : World} (hT : TabAt w 0 4 pw) {A : Option Addr} {n c : Nat} {v : Nat → Vc} (hV : VR w A n v) (hn : n ≤ 300) (l r : Int) (l0 : 0 ≤ l) (l1 : l ≤ 255) (r0 : 0 ≤ r) (r1 : r ≤ 255) :
    Calls Tryd.prog 17 #[.slice A n c, .int .u8 l, .int .u8 r] w fun e w' => e = .returned (.tuple #[.int .i64 (rights v r n), .int .i64 (lefts v l n)]) ∧ Below w.heap.size w w' := by
  go_enter Tryd.func17, Tryd.ntmps17
  go_wp2_with fail
  refine (tog_any hT hV hn l r l0 l1 r0 r1).mono ?_
  rintro e w' ⟨a, b, rfl, ha, hb, hB⟩
  obtain ⟨re, im, hm, hr, hi⟩ := isI_turn ha (isI_neg hb)
  rw [Int.neg_neg] at hr
  have hmul : ∀ w, (binOp .mul 60 (.complex .f64 0 4607182418800017408) (.complex .f64 a (Op.negFloat .f64 b))).run Tryd.prog w = .ok (.complex .f64 re im) w := fun w => run_complex_mul w _ _ _ _ _ _ _ hm
  have HB := Lib.hid hB
  have HA := Lib.hid hr
  have HC := Lib.hid hi
  clear ha hb hB hr hi hm
  go_wp2_with fail
  refine (conj_any a b _).mono ?_
  rintro e w' ⟨rfl, rfl⟩
  go_wp2_with fail
  refine (parts_any HA.out HC.out _).mono ?_
  rintro e w' ⟨rfl, rfl⟩
  go_wp2_with fail
  go_ret2
  exact ⟨rfl, HB.out⟩
def vcC (v : Vc) : Array Value := #[.int .u8 v.lv, .int .u8 v.vo, .int .u8 v.lf, .int .u8 v.rt]
theorem vr_blk {w : World} {g : Nat} {t : TypeId} {cs : Array Value} (h : Blk w g t cs) {n : Nat} {v : Nat → Vc} (ok : ∀ i, i < n → (v i).ok) (hc : ∀ i, i < n → ∀ j, j < 4 → cs[i * 4 + j]? = some (.int .u8 ((v i).fld j))) : VR w (some ⟨g, 0, none⟩) n v :=
  ⟨fun i hi => ⟨_, rfl, h.lt, fun j hj => by
    have e : (⟨g, 0, none⟩ : Addr).add (i * 4 + j) = ⟨g, i * 4 + j, none⟩ := add_zero_block g _
    rw [e, h.cell]
    exact hc i hi j hj⟩, ok⟩
theorem vr_one {w : World} {g : Nat} {t : TypeId} {v : Vc} (h : Blk w g t (vcC v)) (ok : v.ok) : VR w (some ⟨g, 0, none⟩) 1 fun _ => v :=
  vr_blk h (fun _ _ => ok) fun i hi j hj => by
    obtain rfl : i = 0 := by omega
    have : j = 0 ∨ j = 1 ∨ j = 2 ∨ j = 3 := by omega
    rcases this with rfl | rfl | rfl | rfl <;> rfl
theorem one_any {w : World} (hT : TabAt w 0 4 pw) (v : Vc) (hv : v.ok) (l r : Int) (l0 : 0 ≤ l) (l1 : l ≤ 255) (r0 : 0 ≤ r) (r1 : r ≤ 255) :
    Calls Tryd.prog 16 #[.agg (vcC v), .int .u8 l, .int .u8 r] w fun e w' => e = .returned (.tuple #[.int .i64 (v.left l), .int .i64 (v.right r)]) ∧ Below w.heap.size w w' := by
  have HT := Lib.hid hT
  unfold vcC
  go_enter Tryd.func16, Tryd.ntmps16
  go_wp2_with fail
  refine (tog_any (n := 1) (v := fun _ => v) (HT.out.below (((Below.refl _ _).alloc (Nat.le_refl _) _).alloc (by simp) _)) (vr_one (Blk.new_ (by simp)) hv) (by omega) l r l0 l1 r0 r1).mono ?_
  rintro e w' ⟨a, b, rfl, ha, hb, hB⟩
  have e1 : lefts (fun _ => v) l 1 = v.left l := by unfold lefts; simp [sumTo]
  have e2 : rights (fun _ => v) r 1 = v.right r := by unfold rights; simp [sumTo]
  rw [e1] at ha
  rw [e2] at hb
  have HB := Lib.hid (Below.trans (((Below.refl _ w).alloc (Nat.le_refl _) _).alloc (by simp) _) (hB.mono (by simp; omega)))
  have HA := Lib.hid ha
  have HC := Lib.hid hb
  clear ha hb hB
  go_wp2_with fail
  refine (parts_any HA.out HC.out _).mono ?_
  rintro e w' ⟨rfl, rfl⟩
  go_wp2_with fail
  go_ret2
  exact ⟨rfl, HB.out⟩
/-- a side's part of a voice -/
def Vc.part (v : Vc) (s : Bool) (m : Int) : Int := bif s then v.right m else v.left m
theorem sum_any {w : World} {A : Option Addr} {n c : Nat} {v : Nat → Vc} (hV : VR w A n v) (hn : n ≤ 300) (m : Int) (m0 : 0 ≤ m) (m1 : m ≤ 255) (s : Bool) :
    Calls Tryd.prog 15 #[.slice A n c, .int .u8 m, .bool s] w fun e w' => e = .returned (.int .i64 (sumTo (fun i => (v i).part s m) n)) ∧ Below w.heap.size w w' := by
  have HV := Lib.hid hV
  clear hV
  go_enter Tryd.func15, Tryd.ntmps15
  go_wp2_with fail
  go_loopw [7, 8] (fun z i wr => ∃ k : Nat, k ≤ n ∧ i = .int .i64 k ∧ z = .int .i64 (sumTo (fun i => (v i).part s m) k) ∧ Below w.heap.size w wr) (fun _ i _ => n - (intOf i).toNat)
  case atStart => exact ⟨0, by omega, rfl, rfl, Below.refl _ _⟩
  case round =>
    obtain ⟨k, hk, rfl, rfl, hB⟩ := hrel
    by_cases hlt : k < n
    · have i0 : (0 : Int) ≤ (k : Int) := by omega
      have i1 : (k : Int) < n := by omega
      obtain ⟨ad, rfl, hl, q0, q1, q2, q3, ⟨a0, a1⟩, ⟨a2, a3⟩, ⟨a4, a5⟩, a6, a7⟩ := (HV.out.keep hB).at_ k hlt
      have hbd : ∀ j, -126976 ≤ (v j).part s m ∧ (v j).part s m ≤ 126976 := fun j => by unfold Vc.part; cases s <;> exact side_bd _ _ _ _
      have hsum := sum_bd (n := k) fun j _ => hbd j
      have hpk := hbd k
      have f1 : sumTo (fun i => (v i).part s m) (k + 1) = sumTo (fun i => (v i).part s m) k + (v k).part s m := rfl
      obtain ⟨T, hTt⟩ : ∃ x, sumTo (fun i => (v i).part s m) k = x := ⟨_, rfl⟩
      obtain ⟨p, hp⟩ : ∃ x, (v k).part s m = x := ⟨_, rfl⟩
      rw [hTt, hp] at f1
      rw [hTt] at hsum ⊢
      rw [hp] at hpk
      have F1 := Lib.hid f1
      have HB := Lib.hid hB
      have HP := Lib.hid hp
      obtain ⟨lv, e0⟩ : ∃ x, (v k).lv = x := ⟨_, rfl⟩
      obtain ⟨vo, e1⟩ : ∃ x, (v k).vo = x := ⟨_, rfl⟩
      obtain ⟨lf, e2⟩ : ∃ x, (v k).lf = x := ⟨_, rfl⟩
      obtain ⟨rt, e3⟩ : ∃ x, (v k).rt = x := ⟨_, rfl⟩
      have HE := Lib.hid (And.intro e0 (And.intro e1 (And.intro e2 e3)))
      rw [e0] at q0 a0 a1
      rw [e1] at q1 a2 a3
      rw [e2] at q2 a4 a5
      rw [e3] at q3 a6 a7
      clear f1 hB hp hTt e0 e1 e2 e3 hbd
      cases s
      · have hp2 : p = sideOf lv vo lf m := by rw [← HP.out, ← HE.out.1, ← HE.out.2.1, ← HE.out.2.2.1]; rfl
        have HQ := Lib.hid hp2
        clear hp2
        go_wp2_with fail
        refine rg_begin (S := fun w' => w'.cell? (ad.add (k * 4)) = some (.int .u8 lv) ∧ w'.cell? ⟨(ad.add (k * 4)).block, (ad.add (k * 4)).off + 1, none⟩ = some (.int .u8 vo)) 16 #[false, false, false, false, false, false, false, false, false, false, false, false, false, false, false, false] (by kernel_rfl) (by kernel_rfl) (by kernel_rfl) ?_ (fun hHeld => ?_)
        · exact ⟨q0, q1⟩
        refine rg_take (i := 0) (d := some 27) (l := #[true, false, false, false, false, false, false, false, false, false, false, false, false, false, false, false]) (fuel := 15) (v := ?_) rfl (by kernel_rfl) (by kernel_rfl) (by kernel_rfl) (by kernel_rfl) (by kernel_rfl) (fun _ _ _ h => h) (by kernel_rfl) ?_ (by assumption) ?_
        rotate_left 1
        · (intro wS hSw; (try dsimp only at hSw); go_simp; try with_reducible rfl)
        try simp only [Act.put, List.setIfInBounds_toArray, List.set_cons_zero, List.set_cons_succ]
        refine rg_take (i := 1) (d := some 28) (l := #[true, true, false, false, false, false, false, false, false, false, false, false, false, false, false, false]) (fuel := 14) (v := ?_) rfl (by kernel_rfl) (by kernel_rfl) (by kernel_rfl) (by kernel_rfl) (by kernel_rfl) (fun _ _ _ h => h) (by kernel_rfl) ?_ (by assumption) ?_
        rotate_left 1
        · (intro wS hSw; (try dsimp only at hSw); go_simp; try with_reducible rfl)
        try simp only [Act.put, List.setIfInBounds_toArray, List.set_cons_zero, List.set_cons_succ]
        refine rg_take (i := 2) (d := some 29) (l := #[true, true, true, false, false, false, false, false, false, false, false, false, false, false, false, false]) (fuel := 13) (v := ?_) rfl (by kernel_rfl) (by kernel_rfl) (by kernel_rfl) (by kernel_rfl) (by kernel_rfl) (fun _ _ _ h => h) (by kernel_rfl) ?_ (by assumption) ?_
        rotate_left 1
        · (intro wS hSw; (try dsimp only at hSw); go_simp; try with_reducible rfl)
        try simp only [Act.put, List.setIfInBounds_toArray, List.set_cons_zero, List.set_cons_succ]
        refine rg_take (i := 3) (d := some 30) (l := #[true, true, true, true, false, false, false, false, false, false, false, false, false, false, false, false]) (fuel := 12) (v := ?_) rfl (by kernel_rfl) (by kernel_rfl) (by kernel_rfl) (by kernel_rfl) (by kernel_rfl) (fun _ _ _ h => h) (by kernel_rfl) ?_ (by assumption) ?_
        rotate_left 1
        · (intro wS hSw; (try dsimp only at hSw); go_simp; try with_reducible rfl)
        try simp only [Act.put, List.setIfInBounds_toArray, List.set_cons_zero, List.set_cons_succ]
        refine rg_take (i := 4) (d := some 31) (l := #[true, true, true, true, true, false, false, false, false, false, false, false, false, false, false, false]) (fuel := 11) (v := ?_) rfl (by kernel_rfl) (by kernel_rfl) (by kernel_rfl) (by kernel_rfl) (by kernel_rfl) (fun _ _ _ h => h) (by kernel_rfl) ?_ (by assumption) ?_
        rotate_left 1
        · (intro wS hSw; (try dsimp only at hSw); go_simp; try with_reducible rfl)
        try simp only [Act.put, List.setIfInBounds_toArray, List.set_cons_zero, List.set_cons_succ]
        refine rg_take (i := 5) (d := some 32) (l := #[true, true, true, true, true, true, false, false, false, false, false, false, false, false, false, false]) (fuel := 10) (v := ?_) rfl (by kernel_rfl) (by kernel_rfl) (by kernel_rfl) (by kernel_rfl) (by kernel_rfl) (fun _ _ _ h => h) (by kernel_rfl) ?_ (by assumption) ?_
        rotate_left 1
        · (intro wS hSw; (try dsimp only at hSw); go_simp; try with_reducible rfl)
        try simp only [Act.put, List.setIfInBounds_toArray, List.set_cons_zero, List.set_cons_succ]
        refine rg_take (i := 6) (d := some 33) (l := #[true, true, true, true, true, true, true, false, false, false, false, false, false, false, false, false]) (fuel := 9) (v := ?_) rfl (by kernel_rfl) (by kernel_rfl) (by kernel_rfl) (by kernel_rfl) (by kernel_rfl) (fun _ _ _ h => h) (by kernel_rfl) ?_ (by assumption) ?_
        rotate_left 1
        · (intro wS hSw; (try dsimp only at hSw); go_simp; try with_reducible rfl)
        try simp only [Act.put, List.setIfInBounds_toArray, List.set_cons_zero, List.set_cons_succ]
        refine rg_take (i := 7) (d := some 34) (l := #[true, true, true, true, true, true, true, true, false, false, false, false, false, false, false, false]) (fuel := 8) (v := ?_) rfl (by kernel_rfl) (by kernel_rfl) (by kernel_rfl) (by kernel_rfl) (by kernel_rfl) (fun _ _ _ h => h) (by kernel_rfl) ?_ (by assumption) ?_
        rotate_left 1
        · (intro wS hSw; (try dsimp only at hSw); go_simp; try with_reducible rfl)
        try simp only [Act.put, List.setIfInBounds_toArray, List.set_cons_zero, List.set_cons_succ]
        refine rg_take (i := 8) (d := some 35) (l := #[true, true, true, true, true, true, true, true, true, false, false, false, false, false, false, false]) (fuel := 7) (v := ?_) rfl (by kernel_rfl) (by kernel_rfl) (by kernel_rfl) (by kernel_rfl) (by kernel_rfl) (fun _ _ _ h => h) (by kernel_rfl) ?_ (by assumption) ?_
        rotate_left 1
        · (intro wS hSw; (try dsimp only at hSw); go_simp; try with_reducible rfl)
        try simp only [Act.put, List.setIfInBounds_toArray, List.set_cons_zero, List.set_cons_succ]
        refine rg_take (i := 9) (d := some 36) (l := #[true, true, true, true, true, true, true, true, true, true, false, false, false, false, false, false]) (fuel := 6) (v := ?_) rfl (by kernel_rfl) (by kernel_rfl) (by kernel_rfl) (by kernel_rfl) (by kernel_rfl) (fun _ _ _ h => h) (by kernel_rfl) ?_ (by assumption) ?_
        rotate_left 1
        · (intro wS hSw; (try dsimp only at hSw); go_simp; try with_reducible rfl)
        try simp only [Act.put, List.setIfInBounds_toArray, List.set_cons_zero, List.set_cons_succ]
        refine rg_take (i := 10) (d := some 37) (l := #[true, true, true, true, true, true, true, true, true, true, true, false, false, false, false, false]) (fuel := 5) (v := ?_) rfl (by kernel_rfl) (by kernel_rfl) (by kernel_rfl) (by kernel_rfl) (by kernel_rfl) (fun _ _ _ h => h) (by kernel_rfl) ?_ (by assumption) ?_
        rotate_left 1
        · (intro wS hSw; (try dsimp only at hSw); go_simp; try with_reducible rfl)
        try simp only [Act.put, List.setIfInBounds_toArray, List.set_cons_zero, List.set_cons_succ]
        refine rg_take (i := 11) (d := some 38) (l := #[true, true, true, true, true, true, true, true, true, true, true, true, false, false, false, false]) (fuel := 4) (v := ?_) rfl (by kernel_rfl) (by kernel_rfl) (by kernel_rfl) (by kernel_rfl) (by kernel_rfl) (fun _ _ _ h => h) (by kernel_rfl) ?_ (by assumption) ?_
        rotate_left 1
        · (intro wS hSw; (try dsimp only at hSw); go_simp; try with_reducible rfl)
        try simp only [Act.put, List.setIfInBounds_toArray, List.set_cons_zero, List.set_cons_succ]
        refine rg_take (i := 12) (d := some 39) (l := #[true, true, true, true, true, true, true, true, true, true, true, true, true, false, false, false]) (fuel := 3) (v := ?_) rfl (by kernel_rfl) (by kernel_rfl) (by kernel_rfl) (by kernel_rfl) (by kernel_rfl) (fun _ _ _ h => h) (by kernel_rfl) ?_ (by assumption) ?_
        rotate_left 1
        · (intro wS hSw; (try dsimp only at hSw); go_simp; try with_reducible rfl)
        try simp only [Act.put, List.setIfInBounds_toArray, List.set_cons_zero, List.set_cons_succ]
        refine rg_next (i := 13) (l := #[true, true, true, true, true, true, true, true, true, true, true, true, true, true, false, false]) (fuel := 2) (by kernel_rfl) rfl (by kernel_rfl) (by kernel_rfl) (fun K hK => ?_)
        go_simp
        (go_at_call 24)
        refine (side_any lv vo lf m a0 a1 a2 a3 a4 a5 m0 m1 _).mono ?_
        rw [← HQ.out]
        rintro e w1 ⟨rfl, b1⟩
        have HB1 := Lib.hid (Below.trans HB.out.drew (b1.mono HB.out.size))
        have z0 := (b1.cell (p := ad.add (k * 4)) (by rw [block_of_add]; exact hl)).trans q0
        have z1 := (b1.cell (p := ⟨(ad.add (k * 4)).block, (ad.add (k * 4)).off + 1, none⟩) (by show (ad.add (k * 4)).block < _; rw [block_of_add]; exact hl)).trans q1
        clear b1
        first | (refine hK.out _ _ ?_ (fun hHeld => ?_)) | (go_wp2_with fail; refine hK.out _ _ ?_ (fun hHeld => ?_))
        · (try dsimp only); exact ⟨z0, z1⟩
        clear hK K
        try simp only [Act.put, List.setIfInBounds_toArray, List.set_cons_zero, List.set_cons_succ]
        refine rg_take (i := 14) (d := some 41) (l := #[true, true, true, true, true, true, true, true, true, true, true, true, true, true, true, false]) (fuel := 1) (v := ?_) rfl (by kernel_rfl) (by kernel_rfl) (by kernel_rfl) (by kernel_rfl) (by kernel_rfl) (fun _ _ _ h => h) (by kernel_rfl) ?_ (by assumption) ?_
        rotate_left 1
        · (intro wS hSw; (try dsimp only at hSw); go_simp; try with_reducible rfl)
        try simp only [Act.put, List.setIfInBounds_toArray, List.set_cons_zero, List.set_cons_succ]
        refine rg_take (i := 15) (d := some 7) (l := #[true, true, true, true, true, true, true, true, true, true, true, true, true, true, true, true]) (fuel := 0) (v := ?_) rfl (by kernel_rfl) (by kernel_rfl) (by kernel_rfl) (by kernel_rfl) (by kernel_rfl) (fun _ _ _ h => h) (by kernel_rfl) ?_ (by assumption) ?_
        rotate_left 1
        · (intro wS hSw; (try dsimp only at hSw); go_simp; try with_reducible rfl)
        try simp only [Act.put, List.setIfInBounds_toArray, List.set_cons_zero, List.set_cons_succ]
        refine wpAnyH_done (by kernel_rfl) ?_ _
        go_wp2_with fail
        go_roundw
        case rel => exact ⟨k + 1, by omega, by go_num, by rw [F1.out, IntWalk.i64_in _ (by omega)], HB1.out⟩
        case measure => simp [intOf]; omega
      · have hp2 : p = sideOf lv vo rt m := by rw [← HP.out, ← HE.out.1, ← HE.out.2.1, ← HE.out.2.2.2]; rfl
        have HQ := Lib.hid hp2
        clear hp2
        go_wp2_with fail
        refine rg_begin (S := fun w' => w'.cell? (ad.add (k * 4)) = some (.int .u8 lv) ∧ w'.cell? ⟨(ad.add (k * 4)).block, (ad.add (k * 4)).off + 1, none⟩ = some (.int .u8 vo)) 16 #[false, false, false, false, false, false, false, false, false, false, false, false, false, false, false, false] (by kernel_rfl) (by kernel_rfl) (by kernel_rfl) ?_ (fun hHeld => ?_)
        · exact ⟨q0, q1⟩
        refine rg_take (i := 0) (d := some 27) (l := #[true, false, false, false, false, false, false, false, false, false, false, false, false, false, false, false]) (fuel := 15) (v := ?_) rfl (by kernel_rfl) (by kernel_rfl) (by kernel_rfl) (by kernel_rfl) (by kernel_rfl) (fun _ _ _ h => h) (by kernel_rfl) ?_ (by assumption) ?_
        rotate_left 1
        · (intro wS hSw; (try dsimp only at hSw); go_simp; try with_reducible rfl)
        try simp only [Act.put, List.setIfInBounds_toArray, List.set_cons_zero, List.set_cons_succ]
        refine rg_take (i := 1) (d := some 28) (l := #[true, true, false, false, false, false, false, false, false, false, false, false, false, false, false, false]) (fuel := 14) (v := ?_) rfl (by kernel_rfl) (by kernel_rfl) (by kernel_rfl) (by kernel_rfl) (by kernel_rfl) (fun _ _ _ h => h) (by kernel_rfl) ?_ (by assumption) ?_
        rotate_left 1
        · (intro wS hSw; (try dsimp only at hSw); go_simp; try with_reducible rfl)
        try simp only [Act.put, List.setIfInBounds_toArray, List.set_cons_zero, List.set_cons_succ]
        refine rg_take (i := 2) (d := some 29) (l := #[true, true, true, false, false, false, false, false, false, false, false, false, false, false, false, false]) (fuel := 13) (v := ?_) rfl (by kernel_rfl) (by kernel_rfl) (by kernel_rfl) (by kernel_rfl) (by kernel_rfl) (fun _ _ _ h => h) (by kernel_rfl) ?_ (by assumption) ?_
        rotate_left 1
        · (intro wS hSw; (try dsimp only at hSw); go_simp; try with_reducible rfl)
        try simp only [Act.put, List.setIfInBounds_toArray, List.set_cons_zero, List.set_cons_succ]
        refine rg_take (i := 3) (d := some 30) (l := #[true, true, true, true, false, false, false, false, false, false, false, false, false, false, false, false]) (fuel := 12) (v := ?_) rfl (by kernel_rfl) (by kernel_rfl) (by kernel_rfl) (by kernel_rfl) (by kernel_rfl) (fun _ _ _ h => h) (by kernel_rfl) ?_ (by assumption) ?_
        rotate_left 1
        · (intro wS hSw; (try dsimp only at hSw); go_simp; try with_reducible rfl)
        try simp only [Act.put, List.setIfInBounds_toArray, List.set_cons_zero, List.set_cons_succ]
        refine rg_take (i := 4) (d := some 31) (l := #[true, true, true, true, true, false, false, false, false, false, false, false, false, false, false, false]) (fuel := 11) (v := ?_) rfl (by kernel_rfl) (by kernel_rfl) (by kernel_rfl) (by kernel_rfl) (by kernel_rfl) (fun _ _ _ h => h) (by kernel_rfl) ?_ (by assumption) ?_
        rotate_left 1
        · (intro wS hSw; (try dsimp only at hSw); go_simp; try with_reducible rfl)
        try simp only [Act.put, List.setIfInBounds_toArray, List.set_cons_zero, List.set_cons_succ]
        refine rg_take (i := 5) (d := some 32) (l := #[true, true, true, true, true, true, false, false, false, false, false, false, false, false, false, false]) (fuel := 10) (v := ?_) rfl (by kernel_rfl) (by kernel_rfl) (by kernel_rfl) (by kernel_rfl) (by kernel_rfl) (fun _ _ _ h => h) (by kernel_rfl) ?_ (by assumption) ?_
        rotate_left 1
        · (intro wS hSw; (try dsimp only at hSw); go_simp; try with_reducible rfl)
        try simp only [Act.put, List.setIfInBounds_toArray, List.set_cons_zero, List.set_cons_succ]
        refine rg_take (i := 6) (d := some 33) (l := #[true, true, true, true, true, true, true, false, false, false, false, false, false, false, false, false]) (fuel := 9) (v := ?_) rfl (by kernel_rfl) (by kernel_rfl) (by kernel_rfl) (by kernel_rfl) (by kernel_rfl) (fun _ _ _ h => h) (by kernel_rfl) ?_ (by assumption) ?_
        rotate_left 1
        · (intro wS hSw; (try dsimp only at hSw); go_simp; try with_reducible rfl)
        try simp only [Act.put, List.setIfInBounds_toArray, List.set_cons_zero, List.set_cons_succ]
        refine rg_take (i := 7) (d := some 34) (l := #[true, true, true, true, true, true, true, true, false, false, false, false, false, false, false, false]) (fuel := 8) (v := ?_) rfl (by kernel_rfl) (by kernel_rfl) (by kernel_rfl) (by kernel_rfl) (by kernel_rfl) (fun _ _ _ h => h) (by kernel_rfl) ?_ (by assumption) ?_
        rotate_left 1
        · (intro wS hSw; (try dsimp only at hSw); go_simp; try with_reducible rfl)
        try simp only [Act.put, List.setIfInBounds_toArray, List.set_cons_zero, List.set_cons_succ]
        refine rg_take (i := 8) (d := some 35) (l := #[true, true, true, true, true, true, true, true, true, false, false, false, false, false, false, false]) (fuel := 7) (v := ?_) rfl (by kernel_rfl) (by kernel_rfl) (by kernel_rfl) (by kernel_rfl) (by kernel_rfl) (fun _ _ _ h => h) (by kernel_rfl) ?_ (by assumption) ?_
        rotate_left 1
        · (intro wS hSw; (try dsimp only at hSw); go_simp; try with_reducible rfl)
        try simp only [Act.put, List.setIfInBounds_toArray, List.set_cons_zero, List.set_cons_succ]
        refine rg_take (i := 9) (d := some 36) (l := #[true, true, true, true, true, true, true, true, true, true, false, false, false, false, false, false]) (fuel := 6) (v := ?_) rfl (by kernel_rfl) (by kernel_rfl) (by kernel_rfl) (by kernel_rfl) (by kernel_rfl) (fun _ _ _ h => h) (by kernel_rfl) ?_ (by assumption) ?_
        rotate_left 1
        · (intro wS hSw; (try dsimp only at hSw); go_simp; try with_reducible rfl)
        try simp only [Act.put, List.setIfInBounds_toArray, List.set_cons_zero, List.set_cons_succ]
        refine rg_take (i := 10) (d := some 37) (l := #[true, true, true, true, true, true, true, true, true, true, true, false, false, false, false, false]) (fuel := 5) (v := ?_) rfl (by kernel_rfl) (by kernel_rfl) (by kernel_rfl) (by kernel_rfl) (by kernel_rfl) (fun _ _ _ h => h) (by kernel_rfl) ?_ (by assumption) ?_
        rotate_left 1
        · (intro wS hSw; (try dsimp only at hSw); go_simp; try with_reducible rfl)
        try simp only [Act.put, List.setIfInBounds_toArray, List.set_cons_zero, List.set_cons_succ]
        refine rg_take (i := 11) (d := some 38) (l := #[true, true, true, true, true, true, true, true, true, true, true, true, false, false, false, false]) (fuel := 4) (v := ?_) rfl (by kernel_rfl) (by kernel_rfl) (by kernel_rfl) (by kernel_rfl) (by kernel_rfl) (fun _ _ _ h => h) (by kernel_rfl) ?_ (by assumption) ?_
        rotate_left 1
        · (intro wS hSw; (try dsimp only at hSw); go_simp; try with_reducible rfl)
        try simp only [Act.put, List.setIfInBounds_toArray, List.set_cons_zero, List.set_cons_succ]
        refine rg_take (i := 12) (d := some 39) (l := #[true, true, true, true, true, true, true, true, true, true, true, true, true, false, false, false]) (fuel := 3) (v := ?_) rfl (by kernel_rfl) (by kernel_rfl) (by kernel_rfl) (by kernel_rfl) (by kernel_rfl) (fun _ _ _ h => h) (by kernel_rfl) ?_ (by assumption) ?_
        rotate_left 1
        · (intro wS hSw; (try dsimp only at hSw); go_simp; try with_reducible rfl)
        try simp only [Act.put, List.setIfInBounds_toArray, List.set_cons_zero, List.set_cons_succ]
        refine rg_next (i := 13) (l := #[true, true, true, true, true, true, true, true, true, true, true, true, true, true, false, false]) (fuel := 2) (by kernel_rfl) rfl (by kernel_rfl) (by kernel_rfl) (fun K hK => ?_)
        go_simp
        (go_at_call 24)
        refine (side_any lv vo rt m a0 a1 a2 a3 a6 a7 m0 m1 _).mono ?_
        rw [← HQ.out]
        rintro e w1 ⟨rfl, b1⟩
        have HB1 := Lib.hid (Below.trans HB.out.drew (b1.mono HB.out.size))
        have z0 := (b1.cell (p := ad.add (k * 4)) (by rw [block_of_add]; exact hl)).trans q0
        have z1 := (b1.cell (p := ⟨(ad.add (k * 4)).block, (ad.add (k * 4)).off + 1, none⟩) (by show (ad.add (k * 4)).block < _; rw [block_of_add]; exact hl)).trans q1
        clear b1
        first | (refine hK.out _ _ ?_ (fun hHeld => ?_)) | (go_wp2_with fail; refine hK.out _ _ ?_ (fun hHeld => ?_))
        · (try dsimp only); exact ⟨z0, z1⟩
        clear hK K
        try simp only [Act.put, List.setIfInBounds_toArray, List.set_cons_zero, List.set_cons_succ]
        refine rg_take (i := 14) (d := some 41) (l := #[true, true, true, true, true, true, true, true, true, true, true, true, true, true, true, false]) (fuel := 1) (v := ?_) rfl (by kernel_rfl) (by kernel_rfl) (by kernel_rfl) (by kernel_rfl) (by kernel_rfl) (fun _ _ _ h => h) (by kernel_rfl) ?_ (by assumption) ?_
        rotate_left 1
        · (intro wS hSw; (try dsimp only at hSw); go_simp; try with_reducible rfl)
        try simp only [Act.put, List.setIfInBounds_toArray, List.set_cons_zero, List.set_cons_succ]
        refine rg_take (i := 15) (d := some 7) (l := #[true, true, true, true, true, true, true, true, true, true, true, true, true, true, true, true]) (fuel := 0) (v := ?_) rfl (by kernel_rfl) (by kernel_rfl) (by kernel_rfl) (by kernel_rfl) (by kernel_rfl) (fun _ _ _ h => h) (by kernel_rfl) ?_ (by assumption) ?_
        rotate_left 1
        · (intro wS hSw; (try dsimp only at hSw); go_simp; try with_reducible rfl)
        try simp only [Act.put, List.setIfInBounds_toArray, List.set_cons_zero, List.set_cons_succ]
        refine wpAnyH_done (by kernel_rfl) ?_ _
        go_wp2_with fail
        go_roundw
        case rel => exact ⟨k + 1, by omega, by go_num, by rw [F1.out, IntWalk.i64_in _ (by omega)], HB1.out⟩
        case measure => simp [intOf]; omega
    · have i1 : ¬ (k : Int) < n := by omega
      have : k = n := by omega
      subst this
      have HB := Lib.hid hB
      clear hB
      go_wp2_with fail
      go_ret
      exact ⟨rfl, HB.out⟩
end Go.Proofs.YtaamfcbpelbboaaDoor
namespace Go.Proofs.YtaamfcbpelbboaaDoor
open Go.RowKit
set_option linter.unusedVariables false
set_option linter.unusedSimpArgs false
set_option maxRecDepth 100000
/-- How high and loud a channel is. -/
def Cw.vc (x : Cw) : Vc := ⟨x.lvl, x.ct % 32, x.bl / 16, x.bl % 16⟩
def Vc.zero : Vc := ⟨0, 0, 0, 0⟩
theorem Cw.lvl_bd {x : Cw} (h : x.ok) (ht : x.tdk) : 0 ≤ x.lvl ∧ x.lvl ≤ 255 := by
  unfold Cw.lvl
  repeat' split
  · decide
  · exact ht
  · unfold lvN; split <;> decide
  · exact h.2.2.2.2.2.2.2 _
theorem Cw.vc_ok {x : Cw} (h : x.ok) (ht : x.tdk) : x.vc.ok := by
  obtain ⟨_, _, _, _, _, ⟨a0, a1⟩, ⟨b0, b1⟩, _⟩ := id h
  refine ⟨Cw.lvl_bd h ht, ?_, ?_, ?_⟩ <;> unfold Cw.vc <;> dsimp only <;> omega
theorem voice_any {w : World} {n : Nat} {x : Cw} (h : CW w n x) : Calls Tryd.prog 48 #[.pointer (some ⟨n, 0, none⟩)] w fun e w' => e = .returned (.agg (vcC x.vc)) ∧ Below w.heap.size w w' := by
  have H := Lib.hid h
  have hl := h.lt
  obtain ⟨_, _, _, _, _, ⟨a0, a1⟩, ⟨b0, b1⟩, _⟩ := h.2
  clear h
  go_enter Tryd.func48, Tryd.ntmps48
  go_wp2_with fail
  have hb : Blk (w.alloc (.cells #[.int .u8 0, .int .u8 0, .int .u8 0, .int .u8 0] 32)) w.heap.size 32 #[.int .u8 0, .int .u8 0, .int .u8 0, .int .u8 0] := Blk.new w _ _
  have hB : Below w.heap.size w (w.alloc (.cells #[.int .u8 0, .int .u8 0, .int .u8 0, .int .u8 0] 32)) := (Below.refl _ _).alloc (Nat.le_refl _) _
  have hc := H.out.keep hB hl
  have HB := Lib.hid hB
  generalize World.alloc _ _ = wa at *
  generalize hg : w.heap.size = g at *
  have HG := Lib.hid hg
  have HH := Lib.hid (And.intro hb hc)
  clear hg hb hc hB
  refine (cbal_any HH.out.2).mono ?_
  rintro e w1 ⟨rfl, b1⟩
  have Z1 := Lib.hid (And.intro (HH.out.1.below b1 HH.out.1.lt) (And.intro (HH.out.2.keep b1 HH.out.2.lt) (Below.trans HB.out (b1.mono (HG.out ▸ HB.out.size)))))
  clear b1 HH HB
  go_wp2_with fail
  refine (clevel_any Z1.out.2.1).mono ?_
  rintro e w2 ⟨rfl, b2⟩
  have Z2 := Lib.hid (And.intro (Z1.out.1.below b2 Z1.out.1.lt) (And.intro (Z1.out.2.1.keep b2 Z1.out.2.1.lt) (Below.trans Z1.out.2.2 (b2.mono (HG.out ▸ Z1.out.2.2.size)))))
  clear b2 Z1
  go_wp2_with fail
  refine (cvol_any Z2.out.2.1).mono ?_
  rintro e w3 ⟨rfl, rfl⟩
  have k0 : w2.cell? ⟨g, 0, none⟩ = some (.int .u8 0) := Z2.out.1.cell 0
  have k1 : w2.cell? ⟨g, 1, none⟩ = some (.int .u8 0) := Z2.out.1.cell 1
  have k2 : w2.cell? ⟨g, 2, none⟩ = some (.int .u8 0) := Z2.out.1.cell 2
  have k3 : w2.cell? ⟨g, 3, none⟩ = some (.int .u8 0) := Z2.out.1.cell 3
  have f0 := Z2.out.1.frozen 0
  have f1 := Z2.out.1.frozen 1
  have f2 := Z2.out.1.frozen 2
  have f3 := Z2.out.1.frozen 3
  go_wp2_with fail
  have NB := (((Z2.out.1.set_ 0 (.int .u8 x.lvl)).set_ 1 (.int .u8 (x.ct % 32))).set_ 2 (.int .u8 (x.bl / 16))).set_ 3 (.int .u8 (x.bl % 16))
  simp only [List.setIfInBounds_toArray, List.set_cons_zero, List.set_cons_succ] at NB
  have hld := NB.run_load (P := Tryd.prog) Tryd.underlying32 rfl (by kernel_rfl)
  refine bodyPost_ret (v := .agg (vcC x.vc)) (results_cell (a := ⟨g, 0, none⟩) Tryd.results48 (by rfl) hld) rfl ?_
  refine ⟨rfl, ?_⟩
  have hB := Z2.out.2.2
  rw [HG.out]
  exact (((hB.setCell (p := ⟨g, 0, none⟩) (Nat.le_refl _) _).setCell (p := ⟨g, 1, none⟩) (Nat.le_refl _) _).setCell (p := ⟨g, 2, none⟩) (Nat.le_refl _) _).setCell (p := ⟨g, 3, none⟩) (Nat.le_refl _) _
/-- The cells of n voices. -/
def vsL (v : Nat → Vc) (n : Nat) : List Value := cellsOf_ 4 (fun i j => .int .u8 ((v i).fld j)) n
def vsC (v : Nat → Vc) (n : Nat) : Array Value := (vsL v n).toArray
theorem vsC_size (v : Nat → Vc) (n : Nat) : (vsC v n).size = n * 4 := by simp [vsC, vsL, cellsOf_len]
theorem vsC_at (v : Nat → Vc) (n i j : Nat) (hi : i < n) (hj : j < 4) : (vsC v n)[i * 4 + j]? = some (.int .u8 ((v i).fld j)) := by
  have hlt : i * 4 + j < n * 4 := by omega
  have e1 : (i * 4 + j) / 4 = i := by omega
  have e2 : (i * 4 + j) % 4 = j := by omega
  have := cellsOf_at 4 (fun i j => Value.int .u8 ((v i).fld j)) n (i * 4 + j) hlt
  rw [e1, e2] at this
  simpa [vsC, vsL] using this
theorem vsC_congr {v u : Nat → Vc} {n : Nat} (h : ∀ i, i < n → v i = u i) : vsC v n = vsC u n := by
  apply Array.ext_getElem?
  intro q
  by_cases hq : q < n * 4
  · have h4 : q = q / 4 * 4 + q % 4 := by omega
    rw [h4, vsC_at v n _ _ (by omega) (by omega), vsC_at u n _ _ (by omega) (by omega), h _ (by omega)]
  · rw [Array.getElem?_eq_none (by rw [vsC_size]; omega), Array.getElem?_eq_none (by rw [vsC_size]; omega)]
theorem vsC_one (v : Nat → Vc) (n : Nat) : ∀ x ∈ (vsC v n).toList, x.oneCell' = true := by
  intro x hx
  exact cellsOf_one (m := 4) (fun i j _ _ => rfl) x (by simpa [vsC, vsL] using hx)
theorem vsC_put (v : Nat → Vc) (n k : Nat) (hk : k < n) (x : Vc) : ((((vsC v n).setIfInBounds (k * 4) (.int .u8 x.lv)).setIfInBounds (k * 4 + 1) (.int .u8 x.vo)).setIfInBounds (k * 4 + 2) (.int .u8 x.lf)).setIfInBounds (k * 4 + 3) (.int .u8 x.rt) = vsC (fun i => if i = k then x else v i) n := by
  apply Array.ext_getElem?
  intro q
  have hsz := vsC_size v n
  by_cases hq : q < n * 4
  · have h4 : q = q / 4 * 4 + q % 4 := by omega
    have hu := vsC_at (fun i => if i = k then x else v i) n (q / 4) (q % 4) (by omega) (by omega)
    have hv := vsC_at v n (q / 4) (q % 4) (by omega) (by omega)
    rw [← h4] at hu hv
    rw [hu]
    simp only [Array.getElem?_setIfInBounds, Array.size_setIfInBounds, hsz]
    by_cases e : q / 4 = k
    · have : q % 4 = 0 ∨ q % 4 = 1 ∨ q % 4 = 2 ∨ q % 4 = 3 := by omega
      rcases this with h | h | h | h
      · rw [if_neg (by omega), if_neg (by omega), if_neg (by omega), if_pos (by omega), if_pos (by omega)]; simp [e, h, Vc.fld]
      · rw [if_neg (by omega), if_neg (by omega), if_pos (by omega), if_pos (by omega)]; simp [e, h, Vc.fld]
      · rw [if_neg (by omega), if_pos (by omega), if_pos (by omega)]; simp [e, h, Vc.fld]
      · rw [if_pos (by omega), if_pos (by omega)]; simp [e, h, Vc.fld]
    · rw [if_neg (by omega), if_neg (by omega), if_neg (by omega), if_neg (by omega), hv]
      simp only [if_neg e]
  · rw [Array.getElem?_eq_none (by simp only [Array.size_setIfInBounds]; omega), Array.getElem?_eq_none (by rw [vsC_size]; omega)]
end Go.Proofs.YtaamfcbpelbboaaDoor
