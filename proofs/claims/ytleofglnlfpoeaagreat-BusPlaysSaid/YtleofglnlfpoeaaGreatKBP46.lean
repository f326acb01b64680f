/-
  Texts of these proofs, one behind the other: Ram12, Rb11, Rb17.
-/
import Derived.Test.YtleofglnlfpoeaaGreatKBP44
import Derived.Test.YtleofglnlfpoeaaGreatKBP33
import Derived.Test.YtleofglnlfpoeaaGreatKBP36
import Derived.Test.YtleofglnlfpoeaaGreatKBP45
import Derived.Test.YtleofglnlfpoeaaGreatKBP40
import Derived.Test.YtleofglnlfpoeaaGreatKBP43
import Derived.Deep.Cut
import Derived.Deep.CutRange
import Derived.Deep.CutBlock
import Derived.Deep.RegionHeld3
namespace Go.Proofs.YtleofglnlfpoeaaGreat
open Go.RowKit
set_option linter.unusedVariables false
set_option linter.unusedSimpArgs false
set_option maxRecDepth 100000
end Go.Proofs.YtleofglnlfpoeaaGreat
namespace Go.Proofs.YtleofglnlfpoeaaGreat
open Go.RowKit
set_option linter.unusedVariables false
set_option linter.unusedSimpArgs false
set_option maxRecDepth 100000
def FKb : List FK := [.int .u8, .int .u32, .int .u8, .int .u8]
def StepsB (n : Nat) (qs : Nat → Nat → Value) : Prop := ∀ i, i < n → ∀ (j : Nat) (k : FK), FKb[j]? = some k → k.ok (qs i j)
def PlayR (W : World) (g : Nat) (d : Hd) (P : Bp) (r : Nat) (Q : Rbp) (K : Nat) (w : World) (e : Ending) (w' : World) : Prop :=
  e = .returned (.bool true) ∧ ∃ s', BX2 W g d P r Q s' w w' ∧ s'.fit K
section
variable {W w : World} {g : Nat} {d : Hd} {P : Bp} {r : Nat} {Q : Rbp} {s : Bs} {nx : Bool}
theorem irow_bat {m : Nat} {C : List Value} {f : Nat → Int} (h : Blk w m 5 C.toArray) (hA : BAt C f) (hw : ∀ i, i < 8192 → 0 ≤ f i ∧ f i ≤ 255) : IRow w .u8 (some ⟨m, 0, none⟩) 8192 f := fun i hi =>
  ⟨_, rfl, h.lt, by rw [add_zero_block, h.cell]; simpa using hA i hi, WalkArith.wf_u8 (hw i hi)⟩
theorem bpeek_v (h : BU w g d P s) {a v : Int} (a0 : 0 ≤ a) (a1 : a ≤ 4294967295) (e : s.pk a = v) : Calls Tryz.prog 24 #[.pointer (some ⟨g, 0, none⟩), .int .u32 a] w fun e w' => e = .returned (.int .u8 v) ∧ Below w.heap.size w w' := e ▸ bpeek_any h a a0 a1
theorem rbpeek_v (h : RBU W w r d Q s nx) {a v : Int} (a0 : 0 ≤ a) (a1 : a ≤ 4294967295) (e : s.pk a = v) : Calls Tryz.prog 52 #[.pointer (some ⟨r, 0, none⟩), .int .u32 a] w fun e w' => e = .returned (.int .u8 v) ∧ Below w.heap.size w w' := e ▸ rbpeek_any h a a0 a1
end
set_option maxHeartbeats 32000000 in
theorem bplay_any {W w : World} {g : Nat} {d : Hd} {P : Bp} {r : Nat} {Q : Rbp} {s : Bs} {nx : Bool} {m cm K : Nat} {A : Option Addr} {qs : Nat → Nat → Value}
    (h : BX W w g d P r Q s nx) (C : HC W d Q.Z) (F0 : FRow W 4 A m qs) (F : StepsB m qs) (hm : m ≤ 100) (hfit : s.fit K) (hK : K ≤ 1000) :
    Calls Tryz.prog 11 #[.pointer (some ⟨g, 0, none⟩), .pointer (some ⟨r, 0, none⟩), .slice A m cm] w (PlayR W g d P r Q (K + m) w) := by
  have H := Lib.hid h
  have HC := Lib.hid C
  have HQ := Lib.hid F0
  have HF := Lib.hid F
  have HFIT := Lib.hid hfit
  clear h C F0 F hfit
  go_enter Tryz.func11, Tryz.ntmps11
  go_wp2_with fail
  go_loopw [7] (fun i wr => ∃ k : Nat, k ≤ m ∧ i = .int .i64 k ∧ ∃ s', BX2 W g d P r Q s' w wr ∧ s'.fit (K + k)) (fun i _ => m - (intOf i).toNat)
  case atStart => exact ⟨0, Nat.zero_le _, rfl, s, BX2.refl H.out, HFIT.out⟩
  case round =>
    obtain ⟨k, hk, rfl, s, ⟨P1, t1, nx1, hI, hKp, hFr⟩, hfr⟩ := hrel
    have HI := Lib.hid hI
    have HK := Lib.hid hKp
    have HFr := Lib.hid hFr
    have HFT := Lib.hid hfr
    clear hI hKp hFr hfr H HFIT
    by_cases hlt : k < m
    · obtain ⟨ad, rfl, hl, q0, q1, q2, q3⟩ := fkCells4 (FRow.keep HQ.out HI.out.rb.old) k hlt
      obtain ⟨kw, e0, w0⟩ := HF.out k hlt 0 _ rfl
      obtain ⟨a, e1, w1⟩ := HF.out k hlt 1 _ rfl
      obtain ⟨u, e2, w2⟩ := HF.out k hlt 2 _ rfl
      obtain ⟨kd, e3, w3⟩ := HF.out k hlt 3 _ rfl
      rw [e0] at q0
      rw [e1] at q1
      rw [e2] at q2
      rw [e3] at q3
      obtain ⟨k0, k1⟩ := bounds_u8 w0
      obtain ⟨a0, a1⟩ := bounds_u32 w1
      obtain ⟨u0, u1⟩ := bounds_u8 w2
      obtain ⟨d0, d1⟩ := bounds_u8 w3
      have i0 : (0 : Int) ≤ (k : Int) := by omega
      have i1 : (k : Int) < m := by omega
      clear w0 w1 w2 w3 e0 e1 e2 e3
      go_upto_block 2 with fail
      have kA : Kp [] wr (wr.alloc (.cells #[.int .u8 kw, .int .u32 a, .int .u8 u, .int .u8 kd] 135)) := (Kp.refl _ _).alloc _
      have hb := Blk.new wr 135 #[.int .u8 kw, .int .u32 a, .int .u8 u, .int .u8 kd]
      have hn0 : wr.heap.size ∉ bxL g P1 r { Q with tr := t1 } := fun hy => Nat.lt_irrefl _ (HI.out.lt _ hy)
      have HI0 := Lib.hid (HI.out.kp0 kA)
      have HB0 := Lib.hid hb
      have HK0 := Lib.hid (HK.out.trans kA (by simp))
      have e0 : (wr.alloc (.cells #[.int .u8 kw, .int .u32 a, .int .u8 u, .int .u8 kd] 135)).cell? ⟨wr.heap.size, 0, none⟩ = some (.int .u8 kw) := hb.cell 0
      have e1 : (wr.alloc (.cells #[.int .u8 kw, .int .u32 a, .int .u8 u, .int .u8 kd] 135)).cell? ⟨wr.heap.size, 1, none⟩ = some (.int .u32 a) := hb.cell 1
      have e2 : (wr.alloc (.cells #[.int .u8 kw, .int .u32 a, .int .u8 u, .int .u8 kd] 135)).cell? ⟨wr.heap.size, 2, none⟩ = some (.int .u8 u) := hb.cell 2
      have e3 : (wr.alloc (.cells #[.int .u8 kw, .int .u32 a, .int .u8 u, .int .u8 kd] 135)).cell? ⟨wr.heap.size, 3, none⟩ = some (.int .u8 kd) := hb.cell 3
      clear kA hb HI HK q0 q1 q2 q3
      generalize wr.alloc _ = w0 at *
      generalize wr.heap.size = hh at *
      have hn1 : hh ∉ bL g P1 := fun hy => hn0 (List.mem_append_left _ hy)
      have hn2 : hh ∉ rbL r { Q with tr := t1 } := fun hy => hn0 (List.mem_append_right _ hy)
      have hK1 : K + k ≤ 100000 := by omega
      go_cut [7] from 9 to 112 (fun i wx => i = .int .i64 k ∧ ∃ s', BX2 W g d P1 r { Q with tr := t1 } s' w0 wx ∧ s'.fit (K + (k + 1)) ∧ Blk wx hh 135 #[.int .u8 kw, .int .u32 a, .int .u8 u, .int .u8 kd])
      case first =>
        have hk8 : kw % 8 = 0 ∨ kw % 8 = 1 ∨ kw % 8 = 2 ∨ kw % 8 = 3 ∨ kw % 8 = 4 ∨ kw % 8 = 5 ∨ kw % 8 = 6 ∨ kw % 8 = 7 := by omega
        obtain ⟨q8, hq8⟩ : ∃ q, kw % 8 = q := ⟨_, rfl⟩
        rw [hq8] at hk8
        rcases hk8 with rfl | rfl | rfl | rfl | rfl | rfl | rfl | rfl
        · -- 0
          have HI1 := Lib.hid (HI0.out.kp0 (Kp.refl _ _).drew)
          have HB1 := Lib.hid (HB0.out.drew_)
          obtain ⟨v, hv⟩ : ∃ v, s.rdV1 d a = v := ⟨_, rfl⟩
          have HV := Lib.hid hv
          have nv : (v != v) = false := by simp
          have HFT2 := Lib.hid (fit_rd (d := d) HFT.out a kd)
          clear hv e0 e2
          go_wp2_with fail
          refine rg_begin (S := fun w' => w'.cell? ⟨hh, 1, none⟩ = some (.int .u32 a) ∧ w'.cell? ⟨hh, 3, none⟩ = some (.int .u8 kd)) 13 #[false, false, false, false, false, false, false, false, false, false, false, false, false] (by kernel_rfl) (by kernel_rfl) (by kernel_rfl) ?_ (fun hHeld => ?_)
          · exact ⟨e1, e3⟩
          refine rgt 0 (some 36) (v := ?_) rfl ?_ ?_
          rotate_left 1
          · (intro wS hSw; (try dsimp only at hSw); go_simp; try with_reducible rfl)
          refine rgt 1 (some 37) (v := ?_) rfl ?_ ?_
          rotate_left 1
          · (intro wS hSw; (try dsimp only at hSw); go_simp; try with_reducible rfl)
          refine rgt 2 (some 38) (v := ?_) rfl ?_ ?_
          rotate_left 1
          · (intro wS hSw; (try dsimp only at hSw); go_simp; try with_reducible rfl)
          refine rgt 3 (some 39) (v := ?_) rfl ?_ ?_
          rotate_left 1
          · (intro wS hSw; (try dsimp only at hSw); go_simp; try with_reducible rfl)
          refine rgt 4 (some 40) (v := ?_) rfl ?_ ?_
          rotate_left 1
          · (intro wS hSw; (try dsimp only at hSw); go_simp; try with_reducible rfl)
          refine rgt 6 (some 42) (v := ?_) rfl ?_ ?_
          rotate_left 1
          · (intro wS hSw; (try dsimp only at hSw); go_simp; try with_reducible rfl)
          refine rgt 7 (some 43) (v := ?_) rfl ?_ ?_
          rotate_left 1
          · (intro wS hSw; (try dsimp only at hSw); go_simp; try with_reducible rfl)
          refine rgt 8 (some 44) (v := ?_) rfl ?_ ?_
          rotate_left 1
          · (intro wS hSw; (try dsimp only at hSw); go_simp; try with_reducible rfl)
          refine rgt 9 (some 45) (v := ?_) rfl ?_ ?_
          rotate_left 1
          · (intro wS hSw; (try dsimp only at hSw); go_simp; try with_reducible rfl)
          refine rgt 10 (some 46) (v := ?_) rfl ?_ ?_
          rotate_left 1
          · (intro wS hSw; (try dsimp only at hSw); go_simp; try with_reducible rfl)
          try simp only [Act.put, List.setIfInBounds_toArray, List.set_cons_zero, List.set_cons_succ]
          refine rg_next (i := 5) (l := #[true, true, true, true, true, true, true, true, true, true, true, false, false]) (fuel := 2) (by kernel_rfl) rfl (by kernel_rfl) (by kernel_rfl) (fun K hK => ?_)
          go_simp
          (go_at_call 17)
          refine (bread1 HI1.out.bu HFT.out.1 hK1 a kd a0 a1).mono ?_
          rw [HV.out]
          intro e w1 hA
          have HA := Lib.hid hA
          obtain ⟨P2, rfl, y1, y2, y3, y4, y5, y6⟩ := hA
          have R1 := Lib.hid (HI1.out.ref1 y2)
          have B1 := Lib.hid (HB1.out.kp y2 hn1)
          clear y1 y2 y3 y4 y5 y6 HB1
          clear e1 e3
          have e1 : w1.cell? ⟨hh, 1, none⟩ = some (.int .u32 a) := B1.out.cell 1
          have e3 : w1.cell? ⟨hh, 3, none⟩ = some (.int .u8 kd) := B1.out.cell 3
          first | (refine hK.out _ _ ?_ (fun hHeld => ?_)) | (go_wp2_with fail; refine hK.out _ _ ?_ (fun hHeld => ?_))
          · (try dsimp only); exact ⟨e1, e3⟩
          clear hK K
          try simp only [Act.put, List.setIfInBounds_toArray, List.set_cons_zero, List.set_cons_succ]
          refine rg_next (i := 11) (l := #[true, true, true, true, true, true, true, true, true, true, true, true, false]) (fuel := 1) (by kernel_rfl) rfl (by kernel_rfl) (by kernel_rfl) (fun K hK => ?_)
          go_simp
          (go_at_call 47)
          refine (rbread1 HI1.out.bu.ok HI1.out.bu.pg.ok HI1.out.bu.pg.gd R1.out HC.out HFT.out.1 hK1 a kd a0 a1).mono ?_
          rw [HV.out]
          intro e w2 hB
          have HBB := Lib.hid hB
          obtain ⟨t, rfl, z1, z2, z3⟩ := hB
          have B2 := Lib.hid (B1.out.kp z2 hn2)
          clear z1 z2 z3 B1
          clear e1 e3
          have e1 : w2.cell? ⟨hh, 1, none⟩ = some (.int .u32 a) := B2.out.cell 1
          have e3 : w2.cell? ⟨hh, 3, none⟩ = some (.int .u8 kd) := B2.out.cell 3
          first | (refine hK.out _ _ ?_ (fun hHeld => ?_)) | (go_wp2_with fail; refine hK.out _ _ ?_ (fun hHeld => ?_))
          · (try dsimp only); exact ⟨e1, e3⟩
          clear hK K
          refine rgt 12 (some 48) (v := ?_) rfl ?_ ?_
          rotate_left 1
          · (intro wS hSw; (try dsimp only at hSw); go_simp; try with_reducible rfl)
          try simp only [Act.put, List.setIfInBounds_toArray, List.set_cons_zero, List.set_cons_succ]
          refine wpAnyH_done (by kernel_rfl) ?_ _
          clear hHeld
          go_wp2_with fail
          go_meet
          case rel => exact ⟨rfl, _, (BX.both HI1.out HA.out HBB.out).undrew, HFT2.out, B2.out⟩
        · -- 1
          have HI1 := Lib.hid (HI0.out.kp0 (Kp.refl _ _).drew)
          have HB1 := Lib.hid (HB0.out.drew_)
          obtain ⟨v, hv⟩ : ∃ v, s.rdV1 d a = v := ⟨_, rfl⟩
          have HV := Lib.hid hv
          have nv : (v != v) = false := by simp
          have HFT2 := Lib.hid (fit_rd (d := d) HFT.out a kd)
          clear hv e0 e2
          go_wp2_with fail
          refine rg_begin (S := fun w' => w'.cell? ⟨hh, 1, none⟩ = some (.int .u32 a) ∧ w'.cell? ⟨hh, 3, none⟩ = some (.int .u8 kd)) 13 #[false, false, false, false, false, false, false, false, false, false, false, false, false] (by kernel_rfl) (by kernel_rfl) (by kernel_rfl) ?_ (fun hHeld => ?_)
          · exact ⟨e1, e3⟩
          refine rgt 0 (some 36) (v := ?_) rfl ?_ ?_
          rotate_left 1
          · (intro wS hSw; (try dsimp only at hSw); go_simp; try with_reducible rfl)
          refine rgt 1 (some 37) (v := ?_) rfl ?_ ?_
          rotate_left 1
          · (intro wS hSw; (try dsimp only at hSw); go_simp; try with_reducible rfl)
          refine rgt 2 (some 38) (v := ?_) rfl ?_ ?_
          rotate_left 1
          · (intro wS hSw; (try dsimp only at hSw); go_simp; try with_reducible rfl)
          refine rgt 3 (some 39) (v := ?_) rfl ?_ ?_
          rotate_left 1
          · (intro wS hSw; (try dsimp only at hSw); go_simp; try with_reducible rfl)
          refine rgt 4 (some 40) (v := ?_) rfl ?_ ?_
          rotate_left 1
          · (intro wS hSw; (try dsimp only at hSw); go_simp; try with_reducible rfl)
          refine rgt 6 (some 42) (v := ?_) rfl ?_ ?_
          rotate_left 1
          · (intro wS hSw; (try dsimp only at hSw); go_simp; try with_reducible rfl)
          refine rgt 7 (some 43) (v := ?_) rfl ?_ ?_
          rotate_left 1
          · (intro wS hSw; (try dsimp only at hSw); go_simp; try with_reducible rfl)
          refine rgt 8 (some 44) (v := ?_) rfl ?_ ?_
          rotate_left 1
          · (intro wS hSw; (try dsimp only at hSw); go_simp; try with_reducible rfl)
          refine rgt 9 (some 45) (v := ?_) rfl ?_ ?_
          rotate_left 1
          · (intro wS hSw; (try dsimp only at hSw); go_simp; try with_reducible rfl)
          refine rgt 10 (some 46) (v := ?_) rfl ?_ ?_
          rotate_left 1
          · (intro wS hSw; (try dsimp only at hSw); go_simp; try with_reducible rfl)
          try simp only [Act.put, List.setIfInBounds_toArray, List.set_cons_zero, List.set_cons_succ]
          refine rg_next (i := 5) (l := #[true, true, true, true, true, true, true, true, true, true, true, false, false]) (fuel := 2) (by kernel_rfl) rfl (by kernel_rfl) (by kernel_rfl) (fun K hK => ?_)
          go_simp
          (go_at_call 17)
          refine (bread1 HI1.out.bu HFT.out.1 hK1 a kd a0 a1).mono ?_
          rw [HV.out]
          intro e w1 hA
          have HA := Lib.hid hA
          obtain ⟨P2, rfl, y1, y2, y3, y4, y5, y6⟩ := hA
          have R1 := Lib.hid (HI1.out.ref1 y2)
          have B1 := Lib.hid (HB1.out.kp y2 hn1)
          clear y1 y2 y3 y4 y5 y6 HB1
          clear e1 e3
          have e1 : w1.cell? ⟨hh, 1, none⟩ = some (.int .u32 a) := B1.out.cell 1
          have e3 : w1.cell? ⟨hh, 3, none⟩ = some (.int .u8 kd) := B1.out.cell 3
          first | (refine hK.out _ _ ?_ (fun hHeld => ?_)) | (go_wp2_with fail; refine hK.out _ _ ?_ (fun hHeld => ?_))
          · (try dsimp only); exact ⟨e1, e3⟩
          clear hK K
          try simp only [Act.put, List.setIfInBounds_toArray, List.set_cons_zero, List.set_cons_succ]
          refine rg_next (i := 11) (l := #[true, true, true, true, true, true, true, true, true, true, true, true, false]) (fuel := 1) (by kernel_rfl) rfl (by kernel_rfl) (by kernel_rfl) (fun K hK => ?_)
          go_simp
          (go_at_call 47)
          refine (rbread1 HI1.out.bu.ok HI1.out.bu.pg.ok HI1.out.bu.pg.gd R1.out HC.out HFT.out.1 hK1 a kd a0 a1).mono ?_
          rw [HV.out]
          intro e w2 hB
          have HBB := Lib.hid hB
          obtain ⟨t, rfl, z1, z2, z3⟩ := hB
          have B2 := Lib.hid (B1.out.kp z2 hn2)
          clear z1 z2 z3 B1
          clear e1 e3
          have e1 : w2.cell? ⟨hh, 1, none⟩ = some (.int .u32 a) := B2.out.cell 1
          have e3 : w2.cell? ⟨hh, 3, none⟩ = some (.int .u8 kd) := B2.out.cell 3
          first | (refine hK.out _ _ ?_ (fun hHeld => ?_)) | (go_wp2_with fail; refine hK.out _ _ ?_ (fun hHeld => ?_))
          · (try dsimp only); exact ⟨e1, e3⟩
          clear hK K
          refine rgt 12 (some 48) (v := ?_) rfl ?_ ?_
          rotate_left 1
          · (intro wS hSw; (try dsimp only at hSw); go_simp; try with_reducible rfl)
          try simp only [Act.put, List.setIfInBounds_toArray, List.set_cons_zero, List.set_cons_succ]
          refine wpAnyH_done (by kernel_rfl) ?_ _
          clear hHeld
          go_wp2_with fail
          go_meet
          case rel => exact ⟨rfl, _, (BX.both HI1.out HA.out HBB.out).undrew, HFT2.out, B2.out⟩
        · -- 2
          have HI1 := Lib.hid (HI0.out.kp0 (Kp.refl _ _).drew)
          have HB1 := Lib.hid (HB0.out.drew_)
          obtain ⟨v, hv⟩ : ∃ v, s.rdV1 d a = v := ⟨_, rfl⟩
          have HV := Lib.hid hv
          have nv : (v != v) = false := by simp
          have HFT2 := Lib.hid (fit_rd (d := d) HFT.out a kd)
          clear hv e0 e2
          go_wp2_with fail
          refine rg_begin (S := fun w' => w'.cell? ⟨hh, 1, none⟩ = some (.int .u32 a) ∧ w'.cell? ⟨hh, 3, none⟩ = some (.int .u8 kd)) 13 #[false, false, false, false, false, false, false, false, false, false, false, false, false] (by kernel_rfl) (by kernel_rfl) (by kernel_rfl) ?_ (fun hHeld => ?_)
          · exact ⟨e1, e3⟩
          refine rgt 0 (some 36) (v := ?_) rfl ?_ ?_
          rotate_left 1
          · (intro wS hSw; (try dsimp only at hSw); go_simp; try with_reducible rfl)
          refine rgt 1 (some 37) (v := ?_) rfl ?_ ?_
          rotate_left 1
          · (intro wS hSw; (try dsimp only at hSw); go_simp; try with_reducible rfl)
          refine rgt 2 (some 38) (v := ?_) rfl ?_ ?_
          rotate_left 1
          · (intro wS hSw; (try dsimp only at hSw); go_simp; try with_reducible rfl)
          refine rgt 3 (some 39) (v := ?_) rfl ?_ ?_
          rotate_left 1
          · (intro wS hSw; (try dsimp only at hSw); go_simp; try with_reducible rfl)
          refine rgt 4 (some 40) (v := ?_) rfl ?_ ?_
          rotate_left 1
          · (intro wS hSw; (try dsimp only at hSw); go_simp; try with_reducible rfl)
          refine rgt 6 (some 42) (v := ?_) rfl ?_ ?_
          rotate_left 1
          · (intro wS hSw; (try dsimp only at hSw); go_simp; try with_reducible rfl)
          refine rgt 7 (some 43) (v := ?_) rfl ?_ ?_
          rotate_left 1
          · (intro wS hSw; (try dsimp only at hSw); go_simp; try with_reducible rfl)
          refine rgt 8 (some 44) (v := ?_) rfl ?_ ?_
          rotate_left 1
          · (intro wS hSw; (try dsimp only at hSw); go_simp; try with_reducible rfl)
          refine rgt 9 (some 45) (v := ?_) rfl ?_ ?_
          rotate_left 1
          · (intro wS hSw; (try dsimp only at hSw); go_simp; try with_reducible rfl)
          refine rgt 10 (some 46) (v := ?_) rfl ?_ ?_
          rotate_left 1
          · (intro wS hSw; (try dsimp only at hSw); go_simp; try with_reducible rfl)
          try simp only [Act.put, List.setIfInBounds_toArray, List.set_cons_zero, List.set_cons_succ]
          refine rg_next (i := 5) (l := #[true, true, true, true, true, true, true, true, true, true, true, false, false]) (fuel := 2) (by kernel_rfl) rfl (by kernel_rfl) (by kernel_rfl) (fun K hK => ?_)
          go_simp
          (go_at_call 17)
          refine (bread1 HI1.out.bu HFT.out.1 hK1 a kd a0 a1).mono ?_
          rw [HV.out]
          intro e w1 hA
          have HA := Lib.hid hA
          obtain ⟨P2, rfl, y1, y2, y3, y4, y5, y6⟩ := hA
          have R1 := Lib.hid (HI1.out.ref1 y2)
          have B1 := Lib.hid (HB1.out.kp y2 hn1)
          clear y1 y2 y3 y4 y5 y6 HB1
          clear e1 e3
          have e1 : w1.cell? ⟨hh, 1, none⟩ = some (.int .u32 a) := B1.out.cell 1
          have e3 : w1.cell? ⟨hh, 3, none⟩ = some (.int .u8 kd) := B1.out.cell 3
          first | (refine hK.out _ _ ?_ (fun hHeld => ?_)) | (go_wp2_with fail; refine hK.out _ _ ?_ (fun hHeld => ?_))
          · (try dsimp only); exact ⟨e1, e3⟩
          clear hK K
          try simp only [Act.put, List.setIfInBounds_toArray, List.set_cons_zero, List.set_cons_succ]
          refine rg_next (i := 11) (l := #[true, true, true, true, true, true, true, true, true, true, true, true, false]) (fuel := 1) (by kernel_rfl) rfl (by kernel_rfl) (by kernel_rfl) (fun K hK => ?_)
          go_simp
          (go_at_call 47)
          refine (rbread1 HI1.out.bu.ok HI1.out.bu.pg.ok HI1.out.bu.pg.gd R1.out HC.out HFT.out.1 hK1 a kd a0 a1).mono ?_
          rw [HV.out]
          intro e w2 hB
          have HBB := Lib.hid hB
          obtain ⟨t, rfl, z1, z2, z3⟩ := hB
          have B2 := Lib.hid (B1.out.kp z2 hn2)
          clear z1 z2 z3 B1
          clear e1 e3
          have e1 : w2.cell? ⟨hh, 1, none⟩ = some (.int .u32 a) := B2.out.cell 1
          have e3 : w2.cell? ⟨hh, 3, none⟩ = some (.int .u8 kd) := B2.out.cell 3
          first | (refine hK.out _ _ ?_ (fun hHeld => ?_)) | (go_wp2_with fail; refine hK.out _ _ ?_ (fun hHeld => ?_))
          · (try dsimp only); exact ⟨e1, e3⟩
          clear hK K
          refine rgt 12 (some 48) (v := ?_) rfl ?_ ?_
          rotate_left 1
          · (intro wS hSw; (try dsimp only at hSw); go_simp; try with_reducible rfl)
          try simp only [Act.put, List.setIfInBounds_toArray, List.set_cons_zero, List.set_cons_succ]
          refine wpAnyH_done (by kernel_rfl) ?_ _
          clear hHeld
          go_wp2_with fail
          go_meet
          case rel => exact ⟨rfl, _, (BX.both HI1.out HA.out HBB.out).undrew, HFT2.out, B2.out⟩
        · -- 3
          have HI1 := HI0
          have HB1 := HB0
          have HFT2 := Lib.hid (fit_wr (d := d) HFT.out a u kd)
          clear e0
          go_wp2_with fail
          refine (bwrite1 HI1.out.bu HFT.out.1 hK1 a u kd a0 a1 u0 u1).mono ?_
          intro e w1 hA
          have HA := Lib.hid hA
          obtain ⟨P2, rfl, y1, y2, y3, y4, y5, y6⟩ := hA
          have R1 := Lib.hid (HI1.out.ref1 y2)
          have B1 := Lib.hid (HB1.out.kp y2 hn1)
          clear y1 y2 y3 y4 y5 y6 HB1
          clear e1 e2 e3
          have e1 : w1.cell? ⟨hh, 1, none⟩ = some (.int .u32 a) := B1.out.cell 1
          have e2 : w1.cell? ⟨hh, 2, none⟩ = some (.int .u8 u) := B1.out.cell 2
          have e3 : w1.cell? ⟨hh, 3, none⟩ = some (.int .u8 kd) := B1.out.cell 3
          go_wp2_with fail
          refine (rbwrite1 HI1.out.bu.ok HI1.out.bu.pg.ok HI1.out.bu.pg.gd R1.out HC.out HFT.out.1 hK1 a u kd a0 a1 u0 u1).mono ?_
          intro e w2 hB
          have HBB := Lib.hid hB
          obtain ⟨t, rfl, z1, z2, z3⟩ := hB
          have B2 := Lib.hid (B1.out.kp z2 hn2)
          clear z1 z2 z3 B1
          go_wp2_with fail
          go_meet
          case rel => exact ⟨rfl, _, BX.both HI1.out HA.out HBB.out, HFT2.out, B2.out⟩
        · -- 4
          have HI1 := HI0
          have HB1 := HB0
          have HFT2 := Lib.hid (fit_wr (d := d) HFT.out a u kd)
          clear e0
          go_wp2_with fail
          refine (bwrite1 HI1.out.bu HFT.out.1 hK1 a u kd a0 a1 u0 u1).mono ?_
          intro e w1 hA
          have HA := Lib.hid hA
          obtain ⟨P2, rfl, y1, y2, y3, y4, y5, y6⟩ := hA
          have R1 := Lib.hid (HI1.out.ref1 y2)
          have B1 := Lib.hid (HB1.out.kp y2 hn1)
          clear y1 y2 y3 y4 y5 y6 HB1
          clear e1 e2 e3
          have e1 : w1.cell? ⟨hh, 1, none⟩ = some (.int .u32 a) := B1.out.cell 1
          have e2 : w1.cell? ⟨hh, 2, none⟩ = some (.int .u8 u) := B1.out.cell 2
          have e3 : w1.cell? ⟨hh, 3, none⟩ = some (.int .u8 kd) := B1.out.cell 3
          go_wp2_with fail
          refine (rbwrite1 HI1.out.bu.ok HI1.out.bu.pg.ok HI1.out.bu.pg.gd R1.out HC.out HFT.out.1 hK1 a u kd a0 a1 u0 u1).mono ?_
          intro e w2 hB
          have HBB := Lib.hid hB
          obtain ⟨t, rfl, z1, z2, z3⟩ := hB
          have B2 := Lib.hid (B1.out.kp z2 hn2)
          clear z1 z2 z3 B1
          go_wp2_with fail
          go_meet
          case rel => exact ⟨rfl, _, BX.both HI1.out HA.out HBB.out, HFT2.out, B2.out⟩
        · -- 5
          have HI1 := HI0
          have HB1 := HB0
          obtain ⟨r2, hr2⟩ : ∃ r, kd % 2 = r := ⟨_, rfl⟩
          have ht2 : kd.tmod 2 = r2 := by rw [Int.tmod_eq_emod_of_nonneg d0]; exact hr2
          obtain ⟨b, hb⟩ : ∃ b, (r2 == 1) = b := ⟨_, rfl⟩
          have HFT2 := Lib.hid (fit_ask HFT.out b)
          clear e0 e1 e2
          go_wp2_with fail
          refine (bask_any HI1.out.bu b).mono ?_
          intro e w1 hA
          have HA := Lib.hid hA
          obtain ⟨P2, rfl, y1, y2, y3, y4, y5, y6⟩ := hA
          have R1 := Lib.hid (HI1.out.ref1 y2)
          have B1 := Lib.hid (HB1.out.kp y2 hn1)
          clear y1 y2 y3 y4 y5 y6 HB1
          clear e3
          have e3 : w1.cell? ⟨hh, 3, none⟩ = some (.int .u8 kd) := B1.out.cell 3
          have c3 : w1.cell? ⟨r, 3, none⟩ = some (.pointer (some ⟨Q.c, 0, none⟩)) := R1.out.cells.2.2.2.1
          have R1d := Lib.hid (R1.out.kp0 (Kp.refl _ _).drew)
          have B1d := Lib.hid (B1.out.drew_)
          go_wp2_with fail
          refine rg_begin (S := fun w' => w'.cell? ⟨hh, 3, none⟩ = some (.int .u8 kd) ∧ w'.cell? ⟨r, 3, none⟩ = some (.pointer (some ⟨Q.c, 0, none⟩))) 9 #[false, false, false, false, false, false, false, false, false] (by kernel_rfl) (by kernel_rfl) (by kernel_rfl) ?_ (fun hHeld => ?_)
          · exact ⟨e3, c3⟩
          refine rgt 0 (some 76) (v := ?_) rfl ?_ ?_
          rotate_left 1
          · (intro wS hSw; (try dsimp only at hSw); go_simp; try with_reducible rfl)
          refine rgt 1 (some 77) (v := ?_) rfl ?_ ?_
          rotate_left 1
          · (intro wS hSw; (try dsimp only at hSw); go_simp; try with_reducible rfl)
          refine rgt 2 (some 78) (v := ?_) rfl ?_ ?_
          rotate_left 1
          · (intro wS hSw; (try dsimp only at hSw); go_simp; try with_reducible rfl)
          refine rgt 3 (some 79) (v := ?_) rfl ?_ ?_
          rotate_left 1
          · (intro wS hSw; (try dsimp only at hSw); go_simp; try with_reducible rfl)
          refine rgt 4 (some 80) (v := ?_) rfl ?_ ?_
          rotate_left 1
          · (intro wS hSw; (try dsimp only at hSw); go_simp; try with_reducible rfl)
          refine rgt 5 (some 81) (v := ?_) rfl ?_ ?_
          rotate_left 1
          · (intro wS hSw; (try dsimp only at hSw); go_simp; try with_reducible rfl)
          try simp only [Act.put, List.setIfInBounds_toArray, List.set_cons_zero, List.set_cons_succ]
          first | rw [ht2] | rw [hr2] | skip
          refine rgt 6 (some 82) (v := ?_) rfl ?_ ?_
          rotate_left 1
          · (intro wS hSw; (try dsimp only at hSw); go_simp; try with_reducible rfl)
          try simp only [Act.put, List.setIfInBounds_toArray, List.set_cons_zero, List.set_cons_succ]
          try rw [hb]
          refine rgt 7 (some 83) (v := ?_) rfl ?_ ?_
          rotate_left 1
          · (intro wS hSw; (try dsimp only at hSw); go_simp; try with_reducible rfl)
          try simp only [Act.put, List.setIfInBounds_toArray, List.set_cons_zero, List.set_cons_succ]
          try rw [hb]
          refine rg_next (i := 8) (l := #[true, true, true, true, true, true, true, true, true]) (fuel := 0) (by kernel_rfl) rfl (by kernel_rfl) (by kernel_rfl) (fun K hK => ?_)
          go_simp
          (go_at_call 49)
          refine (rbask_any R1d.out b).mono ?_
          intro e w2 hB
          have HBB0 := Lib.hid hB
          obtain ⟨t, rfl, z1, z2, z3⟩ := hB
          have B2 := Lib.hid (B1d.out.kp z2 hn2)
          clear z1 z2 z3
          have HBB := Lib.hid HBB0.out.undrew
          clear e3 c3
          have e3 : w2.cell? ⟨hh, 3, none⟩ = some (.int .u8 kd) := B2.out.cell 3
          have c3 : w2.cell? ⟨r, 3, none⟩ = some (.pointer (some ⟨Q.c, 0, none⟩)) := by obtain ⟨t9, _, q9, _⟩ := HBB.out; exact q9.cells.2.2.2.1
          first | (refine hK.out _ _ ?_ (fun hHeld => ?_)) | (go_wp2_with fail; refine hK.out _ _ ?_ (fun hHeld => ?_))
          · (try dsimp only); exact ⟨e3, c3⟩
          clear hK K
          try simp only [Act.put, List.setIfInBounds_toArray, List.set_cons_zero, List.set_cons_succ]
          refine wpAnyH_done (by kernel_rfl) ?_ _
          clear hHeld
          go_wp2_with fail
          go_meet
          case rel => exact ⟨rfl, _, BX.both HI1.out HA.out HBB.out, HFT2.out, B2.out⟩
        · -- 6
          have HI1 := HI0
          have HB1 := HB0
          have HFT2 := Lib.hid (fit_tn HFT.out)
          clear e0 e1 e2 e3
          go_wp2_with fail
          refine (bturn_any HI1.out.bu HFT.out.2).mono ?_
          intro e w1 hA
          have HA := Lib.hid hA
          obtain ⟨P2, rfl, y1, y2, y3, y4, y5, y6⟩ := hA
          have R1 := Lib.hid (HI1.out.ref1 y2)
          have B1 := Lib.hid (HB1.out.kp y2 hn1)
          clear y1 y2 y3 y4 y5 y6 HB1
          have c3 : w1.cell? ⟨r, 3, none⟩ = some (.pointer (some ⟨Q.c, 0, none⟩)) := R1.out.cells.2.2.2.1
          go_wp2_with fail
          refine (rbturn_any R1.out HFT.out.2).mono ?_
          intro e w2 hB
          have HBB := Lib.hid hB
          obtain ⟨t, rfl, z1, z2, z3⟩ := hB
          have B2 := Lib.hid (B1.out.kp z2 hn2)
          clear z1 z2 z3 B1
          go_wp2_with fail
          go_meet
          case rel => exact ⟨rfl, _, BX.both HI1.out HA.out HBB.out, HFT2.out, B2.out⟩
        · -- 7
          have HI1 := HI0
          have HB1 := HB0
          obtain ⟨q6, hq6⟩ : ∃ q, kd % 6 = q := ⟨_, rfl⟩
          have p0 : 0 ≤ q6 := by omega
          have p1 : q6 ≤ 255 := by omega
          have HFT2 := Lib.hid (fit_ent HFT.out q6)
          clear e0 e1 e2
          go_wp2_with fail
          refine (bentered_any HI1.out.bu q6 p0 p1).mono ?_
          intro e w1 hA
          have HA := Lib.hid hA
          obtain ⟨P2, rfl, y1, y2, y3, y4, y5, y6⟩ := hA
          have R1 := Lib.hid (HI1.out.ref1 y2)
          have B1 := Lib.hid (HB1.out.kp y2 hn1)
          clear y1 y2 y3 y4 y5 y6 HB1
          clear e3
          have e3 : w1.cell? ⟨hh, 3, none⟩ = some (.int .u8 kd) := B1.out.cell 3
          go_wp2_with fail
          refine (rbentered_any R1.out q6 p0 p1).mono ?_
          intro e w2 hB0
          obtain ⟨nx2, hB⟩ := hB0
          have HBB := Lib.hid hB
          obtain ⟨t, rfl, z1, z2, z3⟩ := hB
          have B2 := Lib.hid (B1.out.kp z2 hn2)
          clear z1 z2 z3 B1
          go_wp2_with fail
          go_meet
          case rel => exact ⟨rfl, _, BX.both HI1.out HA.out HBB.out, HFT2.out, B2.out⟩
      case rest =>
        obtain ⟨rfl, s2, hX2, hf2, hb2⟩ := hcut
        have hX3 : BX2 W g d P r Q s2 w wc := BX2.trans HK0.out HFr.out hX2
        have HX : Hid (BX2 W g d P r Q s2 w wc.drew) := Lib.hid (hX3.on (Kp.refl _ _).drew)
        have HBC := Lib.hid (hb2.drew_)
        have HF2 := Lib.hid hf2
        obtain ⟨v, hv⟩ : ∃ v, s2.pk a = v := ⟨_, rfl⟩
        have nv : (v != v) = false := by simp
        have HV := Lib.hid hv
        obtain ⟨r2, hr2⟩ : ∃ r, kd % 2 = r := ⟨_, rfl⟩
        have ht2 : kd.tmod 2 = r2 := by rw [Int.tmod_eq_emod_of_nonneg d0]; exact hr2
        obtain ⟨b, hb⟩ : ∃ b, (r2 == 0) = b := ⟨_, rfl⟩
        clear e0 e1 e2 e3
        have e1 : wc.drew.cell? ⟨hh, 1, none⟩ = some (.int .u32 a) := HBC.out.cell 1
        have e3 : wc.drew.cell? ⟨hh, 3, none⟩ = some (.int .u8 kd) := HBC.out.cell 3
        clear hX2 hX3 hf2 hb2 HI0 HB0 HK0 HFT HFr hv
        go_wp2_with fail
        refine rg_begin (S := fun w' => w'.cell? ⟨hh, 1, none⟩ = some (.int .u32 a) ∧ w'.cell? ⟨hh, 3, none⟩ = some (.int .u8 kd)) 19 #[false, false, false, false, false, false, false, false, false, false, false, false, false, false, false, false, false, false, false] (by kernel_rfl) (by kernel_rfl) (by kernel_rfl) ?_ (fun hHeld => ?_)
        · exact ⟨e1, e3⟩
        generalize wc.drew = u0 at *
        refine rgt 0 (some 94) (v := ?_) rfl ?_ ?_
        rotate_left 1
        · (intro wS hSw; (try dsimp only at hSw); go_simp; try with_reducible rfl)
        refine rgt 1 (some 95) (v := ?_) rfl ?_ ?_
        rotate_left 1
        · (intro wS hSw; (try dsimp only at hSw); go_simp; try with_reducible rfl)
        refine rgt 2 (some 96) (v := ?_) rfl ?_ ?_
        rotate_left 1
        · (intro wS hSw; (try dsimp only at hSw); go_simp; try with_reducible rfl)
        refine rgt 4 (some 98) (v := ?_) rfl ?_ ?_
        rotate_left 1
        · (intro wS hSw; (try dsimp only at hSw); go_simp; try with_reducible rfl)
        refine rgt 5 (some 99) (v := ?_) rfl ?_ ?_
        rotate_left 1
        · (intro wS hSw; (try dsimp only at hSw); go_simp; try with_reducible rfl)
        refine rgt 6 (some 100) (v := ?_) rfl ?_ ?_
        rotate_left 1
        · (intro wS hSw; (try dsimp only at hSw); go_simp; try with_reducible rfl)
        try simp only [Act.put, List.setIfInBounds_toArray, List.set_cons_zero, List.set_cons_succ]
        refine rg_next (i := 3) (l := #[true, true, true, true, true, true, true, false, false, false, false, false, false, false, false, false, false, false, false]) (fuel := 12) (by kernel_rfl) rfl (by kernel_rfl) (by kernel_rfl) (fun K hK => ?_)
        go_simp
        (go_at_call 24)
        obtain ⟨P3, t3, nx3, hI3, _, _⟩ := HX.out
        refine (bpeek_v hI3.bu a0 a1 HV.out).mono ?_
        rintro e v1 ⟨rfl, bb⟩
        have HX' := Lib.hid (HX.out.on (Kp.of_below bb))
        have HB' := Lib.hid (HBC.out.below bb HBC.out.lt)
        clear HX HBC e1 e3 hI3 bb
        have HX := HX'
        have HBC := HB'
        clear HX' HB'
        have e1 : v1.cell? ⟨hh, 1, none⟩ = some (.int .u32 a) := HBC.out.cell 1
        have e3 : v1.cell? ⟨hh, 3, none⟩ = some (.int .u8 kd) := HBC.out.cell 3
        first | (refine hK.out _ _ ?_ (fun hHeld => ?_)) | (go_wp2_with fail; refine hK.out _ _ ?_ (fun hHeld => ?_))
        · (try dsimp only); exact ⟨e1, e3⟩
        clear hK K
        try simp only [Act.put, List.setIfInBounds_toArray, List.set_cons_zero, List.set_cons_succ]
        refine rg_next (i := 7) (l := #[true, true, true, true, true, true, true, true, false, false, false, false, false, false, false, false, false, false, false]) (fuel := 11) (by kernel_rfl) rfl (by kernel_rfl) (by kernel_rfl) (fun K hK => ?_)
        go_simp
        (go_at_call 52)
        obtain ⟨P3, t3, nx3, hI3, _, _⟩ := HX.out
        refine (rbpeek_v hI3.rb a0 a1 HV.out).mono ?_
        rintro e v2 ⟨rfl, bb⟩
        have HX' := Lib.hid (HX.out.on (Kp.of_below bb))
        have HB' := Lib.hid (HBC.out.below bb HBC.out.lt)
        clear HX HBC e1 e3 hI3 bb
        have HX := HX'
        have HBC := HB'
        clear HX' HB'
        have e1 : v2.cell? ⟨hh, 1, none⟩ = some (.int .u32 a) := HBC.out.cell 1
        have e3 : v2.cell? ⟨hh, 3, none⟩ = some (.int .u8 kd) := HBC.out.cell 3
        first | (refine hK.out _ _ ?_ (fun hHeld => ?_)) | (go_wp2_with fail; refine hK.out _ _ ?_ (fun hHeld => ?_))
        · (try dsimp only); exact ⟨e1, e3⟩
        clear hK K
        refine rgt 8 (some 102) (v := ?_) rfl ?_ ?_
        rotate_left 1
        · (intro wS hSw; (try dsimp only at hSw); go_simp; try with_reducible rfl)
        refine rgt 9 (some 103) (v := ?_) rfl ?_ ?_
        rotate_left 1
        · (intro wS hSw; (try dsimp only at hSw); go_simp; try with_reducible rfl)
        refine rgt 10 (some 104) (v := ?_) rfl ?_ ?_
        rotate_left 1
        · (intro wS hSw; (try dsimp only at hSw); go_simp; try with_reducible rfl)
        refine rgt 11 (some 105) (v := ?_) rfl ?_ ?_
        rotate_left 1
        · (intro wS hSw; (try dsimp only at hSw); go_simp; try with_reducible rfl)
        refine rgt 12 (some 106) (v := ?_) rfl ?_ ?_
        rotate_left 1
        · (intro wS hSw; (try dsimp only at hSw); go_simp; try with_reducible rfl)
        refine rgt 13 (some 107) (v := ?_) rfl ?_ ?_
        rotate_left 1
        · (intro wS hSw; (try dsimp only at hSw); go_simp; try with_reducible rfl)
        try simp only [Act.put, List.setIfInBounds_toArray, List.set_cons_zero, List.set_cons_succ]
        first | rw [ht2] | rw [hr2] | skip
        refine rgt 14 (some 108) (v := ?_) rfl ?_ ?_
        rotate_left 1
        · (intro wS hSw; (try dsimp only at hSw); go_simp; try with_reducible rfl)
        try simp only [Act.put, List.setIfInBounds_toArray, List.set_cons_zero, List.set_cons_succ]
        try rw [hb]
        refine rgt 15 (some 109) (v := ?_) rfl ?_ ?_
        rotate_left 1
        · (intro wS hSw; (try dsimp only at hSw); go_simp; try with_reducible rfl)
        try simp only [Act.put, List.setIfInBounds_toArray, List.set_cons_zero, List.set_cons_succ]
        try rw [hb]
        refine rg_next (i := 16) (l := #[true, true, true, true, true, true, true, true, true, true, true, true, true, true, true, true, true, false, false]) (fuel := 2) (by kernel_rfl) rfl (by kernel_rfl) (by kernel_rfl) (fun K hK => ?_)
        go_simp
        (go_at_call 14)
        obtain ⟨P3, t3, nx3, hI3, _, _⟩ := HX.out
        refine (alike_any st_ok hI3 HC.out b).mono ?_
        rintro e v3 ⟨rfl, bb⟩
        have HX' := Lib.hid (HX.out.on (Kp.of_below bb))
        have HB' := Lib.hid (HBC.out.below bb HBC.out.lt)
        clear HX HBC e1 e3 hI3 bb
        have HX := HX'
        have HBC := HB'
        clear HX' HB'
        have e1 : v3.cell? ⟨hh, 1, none⟩ = some (.int .u32 a) := HBC.out.cell 1
        have e3 : v3.cell? ⟨hh, 3, none⟩ = some (.int .u8 kd) := HBC.out.cell 3
        first | (refine hK.out _ _ ?_ (fun hHeld => ?_)) | (go_wp2_with fail; refine hK.out _ _ ?_ (fun hHeld => ?_))
        · (try dsimp only); exact ⟨e1, e3⟩
        clear hK K
        refine rgt 17 (some 111) (v := ?_) rfl ?_ ?_
        rotate_left 1
        · (intro wS hSw; (try dsimp only at hSw); go_simp; try with_reducible rfl)
        refine rgt 18 (some 112) (v := ?_) rfl ?_ ?_
        rotate_left 1
        · (intro wS hSw; (try dsimp only at hSw); go_simp; try with_reducible rfl)
        try simp only [Act.put, List.setIfInBounds_toArray, List.set_cons_zero, List.set_cons_succ]
        refine wpAnyH_done (by kernel_rfl) ?_ _
        clear hHeld
        go_wp2_with fail
        go_roundw
        case rel => exact ⟨k + 1, by omega, by go_num, s2, HX.out, HF2.out⟩
        case measure => simp [intOf]; omega
    · obtain rfl : k = m := by omega
      have HX1 := HI.out.rb.tr
      rw [accL_cells] at HX1
      obtain ⟨A2, c2, rfl, _, _, Y2, _, _⟩ := own_frow (by decide) HX1
      have HY2 : Hid (FRow wr.drew 5 A2 s.tl.length (accF s.tl)) := Lib.hid Y2
      have HI1 : Hid (BX W wr.drew g d P1 r { Q with tr := .slice A2 s.tl.length c2 } s nx1) := Lib.hid (HI.out.kp0 (Kp.refl _ _).drew)
      have HK1 : Hid (Kp (bxL g P r Q) w wr.drew) := Lib.hid (HK.out.drew)
      have hlen : s.tl.length ≤ 1000000 := by have := HFT.out.1.2.2.2; omega
      have HLEN := Lib.hid hlen
      have c1 : wr.drew.cell? ⟨r, 1, none⟩ = some (.slice (some ⟨Q.m, 0, none⟩) 8192 Q.mc) := HI1.out.rb.cells.2.1
      have c6 : wr.drew.cell? ⟨r, 6, none⟩ = some (.slice A2 s.tl.length c2) := HI1.out.rb.cells.2.2.2.2.2.2
      have hrn : (runs s.f 8192).length ≤ 1048576 := by have := runs_len s.f 8192; omega
      obtain ⟨L, hL⟩ : ∃ L, (runs s.f 8192).length = L := ⟨_, rfl⟩
      rw [hL] at hrn
      have HRN := Lib.hid hrn
      have HL := Lib.hid hL
      clear HX1 Y2 HI HK hlen hrn hL
      go_wp2_with fail
      refine rg_begin (S := fun w' => w'.cell? ⟨r, 1, none⟩ = some (.slice (some ⟨Q.m, 0, none⟩) 8192 Q.mc) ∧ w'.cell? ⟨r, 6, none⟩ = some (.slice A2 s.tl.length c2)) 18 #[false, false, false, false, false, false, false, false, false, false, false, false, false, false, false, false, false, false] (by kernel_rfl) (by kernel_rfl) (by kernel_rfl) ?_ (fun hHeld => ?_)
      · exact ⟨c1, c6⟩
      generalize wr.drew = u0 at *
      refine rgt 0 (some 113) (v := ?_) rfl ?_ ?_
      rotate_left 1
      · (intro wS hSw; (try dsimp only at hSw); go_simp; try with_reducible rfl)
      refine rgt 2 (some 115) (v := ?_) rfl ?_ ?_
      rotate_left 1
      · (intro wS hSw; (try dsimp only at hSw); go_simp; try with_reducible rfl)
      refine rgt 3 (some 116) (v := ?_) rfl ?_ ?_
      rotate_left 1
      · (intro wS hSw; (try dsimp only at hSw); go_simp; try with_reducible rfl)
      refine rgt 4 (some 117) (v := ?_) rfl ?_ ?_
      rotate_left 1
      · (intro wS hSw; (try dsimp only at hSw); go_simp; try with_reducible rfl)
      refine rgt 5 (some 118) (v := ?_) rfl ?_ ?_
      rotate_left 1
      · (intro wS hSw; (try dsimp only at hSw); go_simp; try with_reducible rfl)
      try simp only [Act.put, List.setIfInBounds_toArray, List.set_cons_zero, List.set_cons_succ]
      refine rg_next (i := 1) (l := #[true, true, true, true, true, true, false, false, false, false, false, false, false, false, false, false, false, false]) (fuel := 12) (by kernel_rfl) rfl (by kernel_rfl) (by kernel_rfl) (fun K hK => ?_)
      go_simp
      (go_at_call 16)
      refine (btrace_any HI1.out.bu HLEN.out).mono ?_
      rintro e u1 ⟨A3, c3, rfl, _, _, y1, _, _, bb⟩
      have HY2' := Lib.hid (FRow.keep HY2.out bb)
      have HY3 := Lib.hid y1
      clear HY2 y1
      have HI' := Lib.hid (HI1.out.on bb)
      have HK' : Hid (Kp (bxL g P r Q) w u1) := Lib.hid (HK1.out.trans (Kp.of_below (L := bxL g P r Q) bb) (fun z hz => .inl hz))
      clear HI1 HK1 c1 c6
      have HI1 := HI'
      have HK1 := HK'
      clear HI' HK'
      have c1 : u1.cell? ⟨r, 1, none⟩ = some (.slice (some ⟨Q.m, 0, none⟩) 8192 Q.mc) := HI1.out.rb.cells.2.1
      have c6 : u1.cell? ⟨r, 6, none⟩ = some (.slice A2 s.tl.length c2) := HI1.out.rb.cells.2.2.2.2.2.2
      clear bb
      first | (refine hK.out _ _ ?_ (fun hHeld => ?_)) | (go_wp2_with fail; refine hK.out _ _ ?_ (fun hHeld => ?_))
      · (try dsimp only); exact ⟨c1, c6⟩
      clear hK K
      try simp only [Act.put, List.setIfInBounds_toArray, List.set_cons_zero, List.set_cons_succ]
      refine rg_next (i := 6) (l := #[true, true, true, true, true, true, true, false, false, false, false, false, false, false, false, false, false, false]) (fuel := 11) (by kernel_rfl) rfl (by kernel_rfl) (by kernel_rfl) (fun K hK => ?_)
      go_simp
      (go_at_call 15)
      refine (rsame_any HY3.out HY2'.out HLEN.out).mono ?_
      rintro e u2 ⟨rfl, bb⟩
      clear HY2' HY3
      have HI' := Lib.hid (HI1.out.on bb)
      have HK' : Hid (Kp (bxL g P r Q) w u2) := Lib.hid (HK1.out.trans (Kp.of_below (L := bxL g P r Q) bb) (fun z hz => .inl hz))
      clear HI1 HK1 c1 c6
      have HI1 := HI'
      have HK1 := HK'
      clear HI' HK'
      have c1 : u2.cell? ⟨r, 1, none⟩ = some (.slice (some ⟨Q.m, 0, none⟩) 8192 Q.mc) := HI1.out.rb.cells.2.1
      have c6 : u2.cell? ⟨r, 6, none⟩ = some (.slice A2 s.tl.length c2) := HI1.out.rb.cells.2.2.2.2.2.2
      clear bb
      first | (refine hK.out _ _ ?_ (fun hHeld => ?_)) | (go_wp2_with fail; refine hK.out _ _ ?_ (fun hHeld => ?_))
      · (try dsimp only); exact ⟨c1, c6⟩
      clear hK K
      refine rgt 7 (some 120) (v := ?_) rfl ?_ ?_
      rotate_left 1
      · (intro wS hSw; (try dsimp only at hSw); go_simp; try with_reducible rfl)
      refine rgt 8 (some 121) (v := ?_) rfl ?_ ?_
      rotate_left 1
      · (intro wS hSw; (try dsimp only at hSw); go_simp; try with_reducible rfl)
      refine rgt 10 (some 123) (v := ?_) rfl ?_ ?_
      rotate_left 1
      · (intro wS hSw; (try dsimp only at hSw); go_simp; try with_reducible rfl)
      refine rgt 11 (some 124) (v := ?_) rfl ?_ ?_
      rotate_left 1
      · (intro wS hSw; (try dsimp only at hSw); go_simp; try with_reducible rfl)
      refine rgt 12 (some 125) (v := ?_) rfl ?_ ?_
      rotate_left 1
      · (intro wS hSw; (try dsimp only at hSw); go_simp; try with_reducible rfl)
      refine rgt 13 (some 126) (v := ?_) rfl ?_ ?_
      rotate_left 1
      · (intro wS hSw; (try dsimp only at hSw); go_simp; try with_reducible rfl)
      try simp only [Act.put, List.setIfInBounds_toArray, List.set_cons_zero, List.set_cons_succ]
      refine rg_next (i := 9) (l := #[true, true, true, true, true, true, true, true, true, true, true, true, true, true, false, false, false, false]) (fuel := 4) (by kernel_rfl) rfl (by kernel_rfl) (by kernel_rfl) (fun K hK => ?_)
      go_simp
      (go_at_call 28)
      refine (bram_any HI1.out.bu).mono ?_
      rintro e u3 ⟨⟨v4, rs, B4, rfl, r1, r2⟩, bb⟩
      obtain ⟨Ar, cr, rfl, Rr⟩ := prow_any r1 r2
      have RR := Lib.hid Rr
      have R2 := Lib.hid r2
      have HI' := Lib.hid (HI1.out.on bb)
      have HK' : Hid (Kp (bxL g P r Q) w u3) := Lib.hid (HK1.out.trans (Kp.of_below (L := bxL g P r Q) bb) (fun z hz => .inl hz))
      clear HI1 HK1 c1 c6
      have HI1 := HI'
      have HK1 := HK'
      clear HI' HK'
      have c1 : u3.cell? ⟨r, 1, none⟩ = some (.slice (some ⟨Q.m, 0, none⟩) 8192 Q.mc) := HI1.out.rb.cells.2.1
      have c6 : u3.cell? ⟨r, 6, none⟩ = some (.slice A2 s.tl.length c2) := HI1.out.rb.cells.2.2.2.2.2.2
      clear bb r1 r2 Rr
      rw [HL.out]
      first | (refine hK.out _ _ ?_ (fun hHeld => ?_)) | (go_wp2_with fail; refine hK.out _ _ ?_ (fun hHeld => ?_))
      · (try dsimp only); exact ⟨c1, c6⟩
      clear hK K
      try simp only [Act.put, List.setIfInBounds_toArray, List.set_cons_zero, List.set_cons_succ]
      refine rg_next (i := 14) (l := #[true, true, true, true, true, true, true, true, true, true, true, true, true, true, true, false, false, false]) (fuel := 3) (by kernel_rfl) rfl (by kernel_rfl) (by kernel_rfl) (fun K hK => ?_)
      go_simp
      (go_at_call 54)
      obtain ⟨C5, hC5, hA5⟩ := HI1.out.rb.ram
      refine (refPieces_any (some ⟨Q.m, 0, none⟩) 8192 Q.mc s.f HI1.out.rb.cap.1 HI1.out.rb.cap.2.1 (by decide) (irow_bat hC5 hA5 HI1.out.bu.ok.2.2.2.2)).mono ?_
      rintro e u4 ⟨⟨v5, ts, rfl, r3, r4⟩, bb⟩
      obtain ⟨Aq, cq, rfl, Rq⟩ := prow_any r3 r4
      have RR4 := Lib.hid (PRow.keep RR.out bb)
      have HRQ := Lib.hid Rq
      have R4 := Lib.hid r4
      have HI' := Lib.hid (HI1.out.on bb)
      have HK' : Hid (Kp (bxL g P r Q) w u4) := Lib.hid (HK1.out.trans (Kp.of_below (L := bxL g P r Q) bb) (fun z hz => .inl hz))
      clear HI1 HK1 c1 c6
      have HI1 := HI'
      have HK1 := HK'
      clear HI' HK'
      have c1 : u4.cell? ⟨r, 1, none⟩ = some (.slice (some ⟨Q.m, 0, none⟩) 8192 Q.mc) := HI1.out.rb.cells.2.1
      have c6 : u4.cell? ⟨r, 6, none⟩ = some (.slice A2 s.tl.length c2) := HI1.out.rb.cells.2.2.2.2.2.2
      clear bb r3 r4 Rq RR hC5 hA5
      rw [HL.out]
      first | (refine hK.out _ _ ?_ (fun hHeld => ?_)) | (go_wp2_with fail; refine hK.out _ _ ?_ (fun hHeld => ?_))
      · (try dsimp only); exact ⟨c1, c6⟩
      clear hK K
      try simp only [Act.put, List.setIfInBounds_toArray, List.set_cons_zero, List.set_cons_succ]
      refine rg_next (i := 15) (l := #[true, true, true, true, true, true, true, true, true, true, true, true, true, true, true, true, false, false]) (fuel := 2) (by kernel_rfl) rfl (by kernel_rfl) (by kernel_rfl) (fun K hK => ?_)
      go_simp
      (go_at_call 53)
      refine (rsameP_yes Ar Aq L _ _ rs ts HRN.out (by rw [← HL.out]; exact RR4.out) (by rw [← HL.out]; exact HRQ.out) (fun i hi => ?_)).mono ?_
      (· have h1 := R2.out i (by rw [HL.out]; exact hi); have h2 := R4.out i (by rw [HL.out]; exact hi); exact ⟨by rw [h1.1, h2.1], by rw [h1.2.1, h2.2.1], by rw [h1.2.2.1, h2.2.2.1]⟩)
      rintro e u5 ⟨rfl, bb⟩
      have HI' := Lib.hid (HI1.out.on bb)
      have HK' : Hid (Kp (bxL g P r Q) w u5) := Lib.hid (HK1.out.trans (Kp.of_below (L := bxL g P r Q) bb) (fun z hz => .inl hz))
      clear HI1 HK1 c1 c6
      have HI1 := HI'
      have HK1 := HK'
      clear HI' HK'
      have c1 : u5.cell? ⟨r, 1, none⟩ = some (.slice (some ⟨Q.m, 0, none⟩) 8192 Q.mc) := HI1.out.rb.cells.2.1
      have c6 : u5.cell? ⟨r, 6, none⟩ = some (.slice A2 s.tl.length c2) := HI1.out.rb.cells.2.2.2.2.2.2
      clear bb
      first | (refine hK.out _ _ ?_ (fun hHeld => ?_)) | (go_wp2_with fail; refine hK.out _ _ ?_ (fun hHeld => ?_))
      · (try dsimp only); exact ⟨c1, c6⟩
      clear hK K
      refine rgt 16 (some 129) (v := ?_) rfl ?_ ?_
      rotate_left 1
      · (intro wS hSw; (try dsimp only at hSw); go_simp; try with_reducible rfl)
      refine rgt 17 (some 6) (v := ?_) rfl ?_ ?_
      rotate_left 1
      · (intro wS hSw; (try dsimp only at hSw); go_simp; try with_reducible rfl)
      try simp only [Act.put, List.setIfInBounds_toArray, List.set_cons_zero, List.set_cons_succ]
      refine wpAnyH_done (by kernel_rfl) ?_ _
      clear hHeld
      go_wp2_with fail
      go_ret
      exact ⟨rfl, s, ⟨P1, _, nx1, HI1.out, HK1.out, HFr.out⟩, HFT.out⟩
end Go.Proofs.YtleofglnlfpoeaaGreat
namespace Go.Proofs.YtleofglnlfpoeaaGreat
open Go.RowKit
set_option linter.unusedVariables false
set_option linter.unusedSimpArgs false
set_option maxRecDepth 100000
section
variable {W w w1 w2 w5 w6 w7 w' : World} {g r p q : Nat} {d : Hd} {P : Bp} {Q : Rbp} {s : Bs} {nx : Bool} {b : Hb} {x : Hp} {J : Rr} {Z : Rz} {L : List Nat}
theorem bx_new {rv : Value} {rn : Nat} {rz : Nat → Int} {bu : Int} {m : Nat} (hp : HP w5 p d b x) (hr : RHp w5 q d J Z x) (hlo : ∀ y ∈ [p, b.v, b.c, b.p], W.heap.size ≤ y) (ap : ∀ y ∈ [p, b.v, b.c, b.p], y ∉ J.all q)
    (hW : W.heap.size ≤ w5.heap.size) (hg : w5.heap.size ≤ g) (hm : w5.heap.size ≤ m) (hb : BU w6 g d ⟨m, none, p, b, .slice none 0 0⟩ (Bs.new rv rn rz x bu))
    {A : Option Addr} {ca : Nat} (R : RbNewR W d (fun q' => q'.p = q ∧ q'.J = J ∧ q'.Z = Z ∧ q'.A = A ∧ q'.ca = ca) (Bs.new rv rn rz x bu) w6 r w7) :
    ∃ Q, BX W w7 g d ⟨m, none, p, b, .slice none 0 0⟩ r Q (Bs.new rv rn rz x bu) false ∧ Q.Z = Z ∧ Below w6.heap.size w6 w7 := by
  obtain ⟨Q, ⟨e1, e2, e3, e4, e5⟩, hrb, hB, hr6, hm6, hc6, ht⟩ := R
  have hlt := hb.lt
  have hg6 : g < w6.heap.size := hlt g (mem_bL.2 (.inl rfl))
  have l5 : ∀ y ∈ [p, b.v, b.c, b.p], y < w5.heap.size := fun y hy => by
    obtain ⟨a1, a2, a3, a4⟩ := hp.lt
    simp only [List.mem_cons, List.not_mem_nil, or_false] at hy
    rcases hy with rfl | rfl | rfl | rfl <;> assumption
  have j5 : ∀ y ∈ J.all q, y < w5.heap.size := by
    intro y hy
    simp only [Rr.all, List.mem_cons, List.not_mem_nil, or_false] at hy
    rcases hy with rfl | rfl | rfl | rfl | rfl | rfl | rfl
    · exact hr.pg.lt
    · exact hr.tm.1.lt
    · exact hr.q.1.lt
    · exact hr.pt.1.lt
    · exact hr.v.lt
    · exact hr.c.lt
    · exact hr.l.lt
  have cl : ∀ y ∈ bL g ⟨m, none, p, b, .slice none 0 0⟩, (w5.heap.size ≤ y) ∨ y ∈ [p, b.v, b.c, b.p] := fun y hy => by
    rcases mem_bL.1 hy with rfl | rfl | e | rfl | rfl | rfl | rfl | e
    · exact .inl hg
    · exact .inl hm
    · cases e
    · exact .inr (by simp)
    · exact .inr (by simp)
    · exact .inr (by simp)
    · exact .inr (by simp)
    · cases e
  refine ⟨Q, ⟨hb.keep hB, hrb, fun y hy hy2 => ?_, fun u hu => ?_, fun y hy => ?_⟩, e3, hB⟩
  · have hy6 := hlt y hy
    rcases mem_rbL.1 hy2 with e | e | e | e | e
    · omega
    · omega
    · omega
    · rw [e1, e2] at e
      rcases cl y hy with h | h
      · have := j5 y e; omega
      · exact ap y h e
    · rw [ht] at e; cases e
  · have hu6 : u < w6.heap.size := hlt u (by
      simp only [List.mem_cons, List.not_mem_nil, or_false] at hu
      rcases hu with rfl | rfl | rfl | rfl <;> exact mem_bL.2 (by simp))
    omega
  · rcases cl y hy with h | h
    · omega
    · exact hlo y h
/-- Others go on beside them. -/
theorem BX.kpD {g2 r2 : Nat} {P2 : Bp} {Q2 : Rbp} {s2 : Bs} {nx2 : Bool} (h : BX W w g d P r Q s nx) (o : BX W w g2 d P2 r2 Q2 s2 nx2) (hm : ∀ u ∈ [g, P.b.v, P.b.c, P.b.p], u ≤ Q2.m)
    (hd : ∀ y ∈ bxL g P r Q, y ∉ bxL g2 P2 r2 Q2) (k : Kp (bxL g2 P2 r2 Q2) w w') : BX W w' g d P r Q s nx :=
  ⟨h.bu.kpx k (fun y hy => (List.mem_append.1 hy).elim (fun h1 => (o.bu.nb y h1).x) (fun h1 => o.rb.nbx hm y h1)) (fun y hy => hd y (List.mem_append.2 (.inl hy))),
    h.rb.kp k (fun y hy => hd y (List.mem_append.2 (.inr hy))) (fun y hy => (List.mem_append.1 hy).elim (fun h1 => o.lo y h1) (fun h1 => o.rb.new y h1)), h.ap, h.yo, h.lo⟩
/-- Both copied. -/
theorem bx_copied {g2 r2 : Nat} {P2 : Bp} {Q2 : Rbp} (h : BX W w g d P r Q s nx) (hW : W.heap.size ≤ w.heap.size) (b2 : BU w1 g2 d P2 s) (b1 : BU w1 g d P s) (k : Kp (bL g P) w w1) (hn : ∀ y ∈ bL g2 P2, w.heap.size ≤ y)
    (rb2 : RBU W w2 r2 d Q2 s nx) (rb1 : RBU W w2 r d Q s nx) (hB : Below w1.heap.size w1 w2) (hn2 : ∀ y ∈ rbL r2 Q2, w1.heap.size ≤ y) :
    BX W w2 g d P r Q s nx ∧ BX W w2 g2 d P2 r2 Q2 s nx ∧ (∀ u ∈ [g, P.b.v, P.b.c, P.b.p], u ≤ Q2.m) ∧ ∀ y ∈ bxL g P r Q, y ∉ bxL g2 P2 r2 Q2 := by
  have lt0 := h.lt
  have hs := k.size
  have ltc := b2.lt
  have ltg := b1.lt
  have o : BX W w2 g d P r Q s nx := ⟨b1.keep hB, rb1, h.ap, h.yo, h.lo⟩
  have hm2 : w1.heap.size ≤ Q2.m := hn2 _ (mem_rbL.2 (.inr (.inl rfl)))
  refine ⟨o, ⟨b2.keep hB, rb2, fun y hy hy2 => ?_, fun u hu => ?_, fun y hy => Nat.le_trans hW (hn y hy)⟩, fun u hu => ?_, fun y hy hy2 => ?_⟩
  · have := ltc y hy; have := hn2 y hy2; omega
  · have := ltc u (by
      simp only [List.mem_cons, List.not_mem_nil, or_false] at hu
      rcases hu with rfl | rfl | rfl | rfl <;> exact mem_bL.2 (by simp))
    omega
  · have := ltg u (by
      simp only [List.mem_cons, List.not_mem_nil, or_false] at hu
      rcases hu with rfl | rfl | rfl | rfl <;> exact mem_bL.2 (by simp))
    omega
  · have := lt0 y hy
    rcases List.mem_append.1 hy2 with h2 | h2
    · have := hn y h2; omega
    · have := hn2 y h2; omega
end
theorem first_badR (m : Nat) (ps : Nat → Pc) : (∀ i, i < m → good 8192 (ps i)) ∨ ∃ j, j < m ∧ (∀ i, i < j → good 8192 (ps i)) ∧ ¬ good 8192 (ps j) := by
  induction m with
  | zero => exact .inl (fun i hi => absurd hi (by omega))
  | succ m ih =>
    rcases ih with ih | ⟨j, hj, h1, h2⟩
    · by_cases h : good 8192 (ps m)
      · exact .inl fun i hi => by
          by_cases e : i = m
          · exact e ▸ h
          · exact ih i (by omega)
      · exact .inr ⟨m, by omega, ih, h⟩
    · exact .inr ⟨j, by omega, h1, h2⟩
end Go.Proofs.YtleofglnlfpoeaaGreat
