/-
  Texts of these proofs, one behind the other: Ent3, Ent4, Ent5.
-/
import Derived.Test.YtndhkdcdhpfajaaGreatKEP33
import Derived.Test.YtndhkdcdhpfajaaGreatKEP34
import Derived.Test.YtndhkdcdhpfajaaGreatKEP12
import Derived.Deep.RegionHeld3
namespace Go.Proofs.YtndhkdcdhpfajaaGreat
open Go.RowKit
set_option linter.unusedVariables false
set_option linter.unusedSimpArgs false
set_option maxRecDepth 100000
/-- The pages among the registers. -/
def pgF (r : Nat → Int) : Nat → Int := fun i => r (6 + i)
theorem pgF_bd {r : Nat → Int} (hr : StOk r) : ∀ i, i < 8 → 0 ≤ pgF r i ∧ pgF r i ≤ 255 := fun i hi => by
  have := hr (6 + i) (by omega)
  unfold mostP at this
  rw [if_neg (by omega), if_neg (by omega)] at this
  exact this
set_option maxHeartbeats 8000000 in
theorem rphys27_any (r : Nat → Int) (hr : StOk r) (a : Int) (a0 : 0 ≤ a) (a1 : a ≤ 65535) (w : World) : Calls Tryz.prog 28 #[.agg (stA r), .int .u16 a] w fun e w' => e = .returned (.int .u32 (phI (pgF r) a)) ∧ Below w.heap.size w w' := by
  have HR := Lib.hid hr
  have hA := Lib.hid (And.intro a0 a1)
  clear hr a0 a1
  have k0 : Blk (w.alloc (.cells (stA r) 32)) w.heap.size 32 (stA r) := Blk.new w _ _
  have hb : Below w.heap.size w (w.alloc (.cells (stA r) 32)) := (Below.refl _ w).alloc (Nat.le_refl _) _
  obtain ⟨w1, hw1⟩ : ∃ w1, w.alloc (.cells (stA r) 32) = w1 := ⟨_, rfl⟩
  rw [hw1] at k0 hb
  have HW1 := Lib.hid hw1
  have HB := Lib.hid hb
  have c6 : w1.cell? ⟨w.heap.size, 6, none⟩ = some (.int .u8 (r 6)) := k0.cell 6
  have c7 : w1.cell? ⟨w.heap.size, 7, none⟩ = some (.int .u8 (r 7)) := k0.cell 7
  have c8 : w1.cell? ⟨w.heap.size, 8, none⟩ = some (.int .u8 (r 8)) := k0.cell 8
  have c9 : w1.cell? ⟨w.heap.size, 9, none⟩ = some (.int .u8 (r 9)) := k0.cell 9
  have c10 : w1.cell? ⟨w.heap.size, 10, none⟩ = some (.int .u8 (r 10)) := k0.cell 10
  have c11 : w1.cell? ⟨w.heap.size, 11, none⟩ = some (.int .u8 (r 11)) := k0.cell 11
  have c12 : w1.cell? ⟨w.heap.size, 12, none⟩ = some (.int .u8 (r 12)) := k0.cell 12
  have c13 : w1.cell? ⟨w.heap.size, 13, none⟩ = some (.int .u8 (r 13)) := k0.cell 13
  have c14 : w1.cell? ⟨w.heap.size, 14, none⟩ = some (.int .u8 (r 14)) := k0.cell 14
  clear hw1 k0 hb
  go_enter Tryz.func28, Tryz.ntmps28
  go_upto_region 1 with fail
  rw [HW1.out]
  go_upto_region 2 with fail
  have hm : RMu (w1.alloc (.cells #[.int .u8 (r 6), .int .u8 (r 7), .int .u8 (r 8), .int .u8 (r 9), .int .u8 (r 10), .int .u8 (r 11), .int .u8 (r 12), .int .u8 (r 13), .int .u8 (r 14)] 166)) w1.heap.size (pgF r) (r 14) := Blk.new w1 _ _
  have HM := Lib.hid hm
  have HB2 := Lib.hid (HB.out.alloc HB.out.size (.cells #[.int .u8 (r 6), .int .u8 (r 7), .int .u8 (r 8), .int .u8 (r 9), .int .u8 (r 10), .int .u8 (r 11), .int .u8 (r 12), .int .u8 (r 13), .int .u8 (r 14)] 166))
  clear hm
  generalize World.alloc w1 _ = w2 at *
  go_wp2_with fail
  refine (rmphys_any HM.out (pgF_bd HR.out) a hA.out.1 hA.out.2).mono ?_
  rintro e w' ⟨rfl, rfl⟩
  go_wp2_with fail
  go_ret
  exact ⟨rfl, HB2.out⟩
end Go.Proofs.YtndhkdcdhpfajaaGreat
namespace Go.Proofs.YtndhkdcdhpfajaaGreat
open Go.RowKit
set_option linter.unusedVariables false
set_option linter.unusedSimpArgs false
set_option maxRecDepth 100000
/-- An access that is asked for. -/
def acA (kd a : Int) (wr : Bool) (v : Int) : Array Value := #[.int .u8 kd, .int .u16 a, .bool wr, .int .u8 v]
theorem st_cells {w : World} {g g2 : Nat} {r : Nat → Int} {kd a v : Int} {b : Bool} (h : Blk w g 32 (stA r)) (h2 : Blk w g2 70 (acA kd a b v)) :
    w.cell? ⟨g, 6, none⟩ = some (.int .u8 (r 6)) ∧ w.cell? ⟨g, 7, none⟩ = some (.int .u8 (r 7)) ∧ w.cell? ⟨g, 8, none⟩ = some (.int .u8 (r 8)) ∧ w.cell? ⟨g, 9, none⟩ = some (.int .u8 (r 9)) ∧ w.cell? ⟨g, 10, none⟩ = some (.int .u8 (r 10)) ∧ w.cell? ⟨g, 11, none⟩ = some (.int .u8 (r 11)) ∧ w.cell? ⟨g, 12, none⟩ = some (.int .u8 (r 12)) ∧ w.cell? ⟨g, 13, none⟩ = some (.int .u8 (r 13)) ∧ w.cell? ⟨g, 14, none⟩ = some (.int .u8 (r 14)) ∧ w.cell? ⟨g2, 1, none⟩ = some (.int .u16 a) :=
  ⟨h.cell 6, h.cell 7, h.cell 8, h.cell 9, h.cell 10, h.cell 11, h.cell 12, h.cell 13, h.cell 14, h2.cell 1⟩
set_option maxHeartbeats 8000000 in
theorem eaccess_any (r : Nat → Int) (hr : StOk r) (kd a : Int) (b : Bool) (v : Int) (a0 : 0 ≤ a) (a1 : a ≤ 65535) (w : World) (p : Option Addr) (R : World → Value → World → Prop)
    (hW : b = true → ∀ w2, Below w.heap.size w w2 → Calls Tryz.prog 68 #[.pointer p, .int .u32 (phI (pgF r) a), .int .u8 v, .int .u8 kd] w2 fun e w' => e = .returned (.tuple #[]) ∧ R w2 (.int .u8 0) w')
    (hD : b = false → ∀ w2, Below w.heap.size w w2 → Calls Tryz.prog 69 #[.pointer p, .int .u32 (phI (pgF r) a), .int .u8 kd] w2 fun e w' => ∃ x, e = .returned x ∧ R w2 x w') :
    Calls Tryz.prog 26 #[.pointer p, .agg (stA r), .agg (acA kd a b v)] w fun e w' => ∃ x w2, e = .returned x ∧ Below w.heap.size w w2 ∧ R w2 x w' := by
  have HR := Lib.hid hr
  have hA := Lib.hid (And.intro a0 a1)
  have HW := Lib.hid hW
  have HD := Lib.hid hD
  clear hr a0 a1 hW hD
  have k0 : Blk ((w.alloc (.cells (stA r) 32)).alloc (.cells (acA kd a b v) 70)) w.heap.size 32 (stA r) := (Blk.new w _ _).alloc _
  have k1 : Blk ((w.alloc (.cells (stA r) 32)).alloc (.cells (acA kd a b v) 70)) (w.heap.size + 1) 70 (acA kd a b v) := Blk.new_ (by simp)
  have hb : Below w.heap.size w ((w.alloc (.cells (stA r) 32)).alloc (.cells (acA kd a b v) 70)) := ((Below.refl _ w).alloc (Nat.le_refl _) _).alloc (by show w.heap.size ≤ (w.heap.push _).size; simp) _
  obtain ⟨w1, hw1⟩ : ∃ w1, (w.alloc (.cells (stA r) 32)).alloc (.cells (acA kd a b v) 70) = w1 := ⟨_, rfl⟩
  rw [hw1] at k0 k1 hb
  have HW1 := Lib.hid hw1
  have HB := Lib.hid hb
  have K0 := Lib.hid k0
  have K1 := Lib.hid k1
  obtain ⟨s0, s1, s2, s3, s4, s5, s6, s7, s8, s9⟩ := st_cells k0 k1
  clear hw1 k0 k1 hb
  go_enter Tryz.func26, Tryz.ntmps26
  go_upto_region 1 with fail
  rw [HW1.out]
  refine rg_begin (S := fun w' => w'.cell? ⟨w.heap.size, 6, none⟩ = some (.int .u8 (r 6)) ∧ w'.cell? ⟨w.heap.size, 7, none⟩ = some (.int .u8 (r 7)) ∧ w'.cell? ⟨w.heap.size, 8, none⟩ = some (.int .u8 (r 8)) ∧ w'.cell? ⟨w.heap.size, 9, none⟩ = some (.int .u8 (r 9)) ∧ w'.cell? ⟨w.heap.size, 10, none⟩ = some (.int .u8 (r 10)) ∧ w'.cell? ⟨w.heap.size, 11, none⟩ = some (.int .u8 (r 11)) ∧ w'.cell? ⟨w.heap.size, 12, none⟩ = some (.int .u8 (r 12)) ∧ w'.cell? ⟨w.heap.size, 13, none⟩ = some (.int .u8 (r 13)) ∧ w'.cell? ⟨w.heap.size, 14, none⟩ = some (.int .u8 (r 14)) ∧ w'.cell? ⟨w.heap.size + 1, 1, none⟩ = some (.int .u16 a)) 9 #[false, false, false, false, false, false, false, false, false] (by kernel_rfl) (by kernel_rfl) (by kernel_rfl) ?_ (fun hHeld => ?_)
  · exact st_cells K0.out.drew_ K1.out.drew_
  refine rg_take (i := 0) (d := some 8) (l := #[true, false, false, false, false, false, false, false, false]) (fuel := 8) (v := ?_) rfl (by kernel_rfl) (by kernel_rfl) (by kernel_rfl) (by kernel_rfl) (by kernel_rfl) (fun _ _ _ h => h) (by kernel_rfl) ?_ (by assumption) ?_
  rotate_left 1
  · (intro wS hSw; (try dsimp only at hSw); go_simp; try with_reducible rfl)
  try simp only [Act.put, List.setIfInBounds_toArray, List.set_cons_zero, List.set_cons_succ]
  refine rg_take (i := 1) (d := some 9) (l := #[true, true, false, false, false, false, false, false, false]) (fuel := 7) (v := ?_) rfl (by kernel_rfl) (by kernel_rfl) (by kernel_rfl) (by kernel_rfl) (by kernel_rfl) (fun _ _ _ h => h) (by kernel_rfl) ?_ (by assumption) ?_
  rotate_left 1
  · (intro wS hSw; (try dsimp only at hSw); go_simp; try with_reducible rfl)
  try simp only [Act.put, List.setIfInBounds_toArray, List.set_cons_zero, List.set_cons_succ]
  refine rg_take (i := 2) (d := some 10) (l := #[true, true, true, false, false, false, false, false, false]) (fuel := 6) (v := ?_) rfl (by kernel_rfl) (by kernel_rfl) (by kernel_rfl) (by kernel_rfl) (by kernel_rfl) (fun _ _ _ h => h) (by kernel_rfl) ?_ (by assumption) ?_
  rotate_left 1
  · (intro wS hSw; (try dsimp only at hSw); go_simp; try with_reducible rfl)
  try simp only [Act.put, List.setIfInBounds_toArray, List.set_cons_zero, List.set_cons_succ]
  refine rg_take (i := 3) (d := some 11) (l := #[true, true, true, true, false, false, false, false, false]) (fuel := 5) (v := ?_) rfl (by kernel_rfl) (by kernel_rfl) (by kernel_rfl) (by kernel_rfl) (by kernel_rfl) (fun _ _ _ h => h) (by kernel_rfl) ?_ (by assumption) ?_
  rotate_left 1
  · (intro wS hSw; (try dsimp only at hSw); go_simp; try with_reducible rfl)
  try simp only [Act.put, List.setIfInBounds_toArray, List.set_cons_zero, List.set_cons_succ]
  refine rg_take (i := 5) (d := some 13) (l := #[true, true, true, true, false, true, false, false, false]) (fuel := 4) (v := ?_) rfl (by kernel_rfl) (by kernel_rfl) (by kernel_rfl) (by kernel_rfl) (by kernel_rfl) (fun _ _ _ h => h) (by kernel_rfl) ?_ (by assumption) ?_
  rotate_left 1
  · (intro wS hSw; (try dsimp only at hSw); go_simp; try with_reducible rfl)
  try simp only [Act.put, List.setIfInBounds_toArray, List.set_cons_zero, List.set_cons_succ]
  refine rg_take (i := 6) (d := some 14) (l := #[true, true, true, true, false, true, true, false, false]) (fuel := 3) (v := ?_) rfl (by kernel_rfl) (by kernel_rfl) (by kernel_rfl) (by kernel_rfl) (by kernel_rfl) (fun _ _ _ h => h) (by kernel_rfl) ?_ (by assumption) ?_
  rotate_left 1
  · (intro wS hSw; (try dsimp only at hSw); go_simp; try with_reducible rfl)
  try simp only [Act.put, List.setIfInBounds_toArray, List.set_cons_zero, List.set_cons_succ]
  refine rg_next (i := 4) (l := #[true, true, true, true, true, true, true, false, false]) (fuel := 2) (by kernel_rfl) rfl (by kernel_rfl) (by kernel_rfl) (fun K hK => ?_)
  go_simp
  go_at_call 66
  refine (mof_any (pgF r) (r 14) _).mono ?_
  rintro e w2 ⟨m, rfl, hm0, hm, hb2⟩
  have K02 := Lib.hid (K0.out.drew_.below hb2 K0.out.drew_.lt)
  have K12 := Lib.hid (K1.out.drew_.below hb2 K1.out.drew_.lt)
  have HB2 := Lib.hid (HB.out.drew.trans (hb2.mono HB.out.drew.size))
  have HM := Lib.hid hm
  clear hb2 hm hm0 s0 s1 s2 s3 s4 s5 s6 s7 s8 s9
  first | (refine hK.out _ _ ?_ (fun hHeld => ?_)) | (go_wp2_with fail; refine hK.out _ _ ?_ (fun hHeld => ?_))
  · (try dsimp only); exact st_cells K02.out K12.out
  clear hK K
  try simp only [Act.put, List.setIfInBounds_toArray, List.set_cons_zero, List.set_cons_succ]
  refine rg_next (i := 7) (l := #[true, true, true, true, true, true, true, true, false]) (fuel := 1) (by kernel_rfl) rfl (by kernel_rfl) (by kernel_rfl) (fun K hK => ?_)
  go_simp
  go_at_call 67
  refine (mphys_of (banks_any HM.out) (pgF_bd HR.out) a hA.out.1 hA.out.2).mono ?_
  rintro e w3 ⟨rfl, hb3⟩
  have K03 := Lib.hid (K02.out.below hb3 K02.out.lt)
  have K13 := Lib.hid (K12.out.below hb3 K12.out.lt)
  have HB3 := Lib.hid (HB2.out.trans (hb3.mono HB2.out.size))
  clear hb3
  first | (refine hK.out _ _ ?_ (fun hHeld => ?_)) | (go_wp2_with fail; refine hK.out _ _ ?_ (fun hHeld => ?_))
  · (try dsimp only); exact st_cells K03.out K13.out
  clear hK K
  try simp only [Act.put, List.setIfInBounds_toArray, List.set_cons_zero, List.set_cons_succ]
  refine rg_take (i := 8) (d := some 7) (l := #[true, true, true, true, true, true, true, true, true]) (fuel := 0) (v := ?_) rfl (by kernel_rfl) (by kernel_rfl) (by kernel_rfl) (by kernel_rfl) (by kernel_rfl) (fun _ _ _ h => h) (by kernel_rfl) ?_ (by assumption) ?_
  rotate_left 1
  · (intro wS hSw; (try dsimp only at hSw); go_simp; try with_reducible rfl)
  try simp only [Act.put, List.setIfInBounds_toArray, List.set_cons_zero, List.set_cons_succ]
  refine wpAnyH_done (by kernel_rfl) ?_ _
  clear hHeld
  have q0 : w3.cell? ⟨w.heap.size + 1, 0, none⟩ = some (.int .u8 kd) := K13.out.cell 0
  have q2 : w3.cell? ⟨w.heap.size + 1, 2, none⟩ = some (.bool b) := K13.out.cell 2
  have q3 : w3.cell? ⟨w.heap.size + 1, 3, none⟩ = some (.int .u8 v) := K13.out.cell 3
  clear K0 K1 K02 K12 HM HB HB2 HW1
  cases b with
  | true =>
    go_wp2_with fail
    refine (HW.out (by simp) _ HB3.out).mono ?_
    rintro e w4 ⟨rfl, hR⟩
    have HRR := Lib.hid hR
    clear hR q0 q2 q3
    go_wp2_with fail
    go_ret
    exact ⟨_, _, rfl, HB3.out, HRR.out⟩
  | false =>
    go_wp2_with fail
    refine (HD.out (by simp) _ HB3.out).mono ?_
    rintro e w4 ⟨x, rfl, hR⟩
    have HRR := Lib.hid hR
    clear hR q0 q2 q3
    go_wp2_with fail
    go_ret
    exact ⟨_, _, rfl, HB3.out, HRR.out⟩
end Go.Proofs.YtndhkdcdhpfajaaGreat
namespace Go.Proofs.YtndhkdcdhpfajaaGreat
open Go.RowKit
set_option linter.unusedVariables false
set_option linter.unusedSimpArgs false
set_option maxRecDepth 100000
theorem eidling_any (r : Nat → Int) (w : World) : Calls Tryz.prog 78 #[.agg (stA r)] w fun e w' => ∃ g, e = .returned (.func (.func 137) #[] #[.pointer (some ⟨g, 0, none⟩)]) ∧ w.heap.size ≤ g ∧ Blk w' g 32 (stA r) ∧ Below w.heap.size w w' := by
  go_enter Tryz.func78, Tryz.ntmps78
  go_wp2_with fail
  go_ret
  exact ⟨_, rfl, Nat.le_refl _, Blk.new w _ _, (Below.refl _ w).alloc (Nat.le_refl _) _⟩
theorem epushing_any (k : Int) (r : Nat → Int) (w : World) : Calls Tryz.prog 79 #[.int .u8 k, .agg (stA r)] w fun e w' => ∃ g q, e = .returned (.func (.func 139) #[] #[.pointer (some ⟨g, 0, none⟩), .pointer (some ⟨q, 0, none⟩)]) ∧ w.heap.size ≤ q ∧ q < g ∧ Blk w' g 32 (stA r) ∧ Blk w' q 5 #[.int .u8 k] ∧ Below w.heap.size w w' := by
  go_enter Tryz.func79, Tryz.ntmps79
  go_wp2_with fail
  go_ret
  exact ⟨_, _, rfl, Nat.le_refl _, Nat.lt_succ_self _, Blk.new_ (by simp), (Blk.new w _ _).alloc _, ((Below.refl _ w).alloc (Nat.le_refl _) _).alloc (by show w.heap.size ≤ (w.heap.push _).size; simp) _⟩
end Go.Proofs.YtndhkdcdhpfajaaGreat
