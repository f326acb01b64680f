/-
  For every input HardQuiet returns true, and each argument reads behind the call as it read before. No conditions.
-/
import Derived.Test.YtcnjekballnncaaGreatRows
import Derived.Test.YtcnjekballnncaaGreatKH01
import Derived.Test.YtcnjekballnncaaGreatKH44
import Derived.Test.YtcnjekballnncaaGreatKH08
namespace Go.Proofs.YtcnjekballnncaaGreat.hardQuiet
open Go.ChangeShapes Go.WideShapes Go.ChangeAt Go.RowKit
open Go.ChangeMaps (open_string)

set_option linter.unusedVariables false
set_option linter.unusedSimpArgs false
set_option maxRecDepth 100000 in
set_option maxHeartbeats 32000000 in
theorem walk {W : World} (p q s : Fz) (P : FzOk W p) (Q : FzOk W q) (S : FzOk W s) (A2 : Option Addr) (n2 c2 : Nat) (q2 : Nat → Nat → Value) (hnc2 : n2 ≤ c2) (hm2 : c2 ≤ maxLen) (R2 : FRow W 4 A2 n2 q2) (F2 : ∀ i, i < n2 → ∀ (j : Nat) (k : FK), [FK.int .u8, .int .u16, .int .u8, .int .u32][j]? = some k → k.ok (q2 i j)) (off : Int) (wo : (Lit.int .u16 off).wf = true) (u : Int) (wu : (Lit.int .u8 u).wf = true) :
    Calls Tryz.prog 5 #[.agg #[.slice p.A p.n p.c, .slice q.A q.n q.c, .slice s.A s.n s.c], .slice A2 n2 c2, .int .u16 off, .int .u8 u] W fun e w' => e = .returned (.bool true) ∧ Below W.heap.size W w' := by
  obtain ⟨o0, o1⟩ := bounds_u16 wo
  obtain ⟨u0, u1⟩ := bounds_u8 wu
  unfold maxLen at hm2
  obtain ⟨P1, P2, P3, P4⟩ := P
  obtain ⟨Q1, Q2, Q3, Q4⟩ := Q
  obtain ⟨S1, S2, S3, S4⟩ := S
  unfold maxLen at P2 Q2 S2
  have HP3 := Lib.hid P3
  have HQ3 := Lib.hid Q3
  have HU3 := Lib.hid S3
  have HP4 := Lib.hid P4
  have HQ4 := Lib.hid Q4
  have HU4 := Lib.hid S4
  have HR2 := Lib.hid R2
  have HF2 : Hid (StepsOk n2 q2) := Lib.hid F2
  have hG0 : Good 0 es0 := ⟨by omega, fun j hj => absurd hj (by omega), fun j hj => absurd hj (by omega)⟩
  have hC0 : (chk es0 0).1 = 0 := by decide
  have HG0 := Lib.hid hG0
  have HC0 := Lib.hid hC0
  clear P3 Q3 S3 P4 Q4 S4 R2 F2 wo wu hG0 hC0
  go_enter Tryz.func5, Tryz.ntmps5
  go_wp2_with fail
  have FB := Lib.hid (Blk.new W 24 #[.slice p.A p.n p.c, .slice q.A q.n q.c, .slice s.A s.n s.c])
  have HB := Lib.hid ((Below.refl W.heap.size W).alloc (Nat.le_refl _) (.cells #[.slice p.A p.n p.c, .slice q.A q.n q.c, .slice s.A s.n s.c] 24))
  generalize World.alloc W _ = w0 at *
  refine (liveH_any _).mono ?_
  rintro e w1 ⟨rfl, b1⟩
  have hsz := HB.out.size
  replace HB := Lib.hid (HB.out.trans (b1.mono hsz))
  replace FB := Lib.hid (FB.out.below b1 FB.out.lt)
  clear b1 hsz
  go_wp2_with fail
  refine (near_any (FRow.keep HR2.out HB.out) HF2.out (by omega)).mono ?_
  rintro e w' ⟨⟨b2, rfl, hs2⟩, rfl⟩
  have HS2 := Lib.hid hs2
  clear hs2
  cases b2 with
  | false =>
    go_wp2_with fail
    go_ret
    exact ⟨rfl, HB.out⟩
  | true =>
  go_upto_region 5 with fail
  have k0 : w1.cell? ⟨W.heap.size, 0, none⟩ = some (.slice p.A p.n p.c) := FB.out.cell 0
  have k1 : w1.cell? ⟨W.heap.size, 1, none⟩ = some (.slice q.A q.n q.c) := FB.out.cell 1
  have k2 : w1.cell? ⟨W.heap.size, 2, none⟩ = some (.slice s.A s.n s.c) := FB.out.cell 2
  by_cases hl : 10000 < p.n ∨ 10000 < q.n ∨ 10000 < s.n
  · go_wp2_with fail
    refine (hnew_long (by omega) (by omega) (by omega) hl).mono ?_
    rintro e w2 ⟨rfl, b2⟩
    have hsz := HB.out.size
    replace HB := Lib.hid (HB.out.trans (b2.mono hsz))
    replace FB := Lib.hid (FB.out.below b2 FB.out.lt)
    clear b2 hsz
    go_upto_region 6 with fail
    have hsz := HB.out.size
    have X1 := Lib.hid (Blk.new w2 32 #[.int .i64 2, .int .i64 0])
    replace HB := Lib.hid (HB.out.alloc hsz (.cells #[.int .i64 2, .int .i64 0] 32))
    replace FB := Lib.hid (FB.out.alloc (.cells #[.int .i64 2, .int .i64 0] 32))
    clear hsz k0 k1 k2
    generalize w2.heap.size = gX1 at *
    generalize World.alloc w2 _ = w3 at *
    have x0 : w3.cell? ⟨gX1, 0, none⟩ = some (.int .i64 2) := X1.out.cell 0
    go_wp2_with fail
    go_ret
    exact ⟨rfl, HB.out⟩
  go_wp2_with fail
  refine (hnew_yes HP4.out HQ4.out HU4.out (fun _ => ⟨rfl, rfl⟩) (IRow.keep HP3.out HB.out) (IRow.keep HQ3.out HB.out) (IRow.keep HU3.out HB.out) (fun i hi => absurd hi (Nat.not_lt_zero _)) hl (by omega) HC0.out HG0.out).mono ?_
  rintro e w2 ⟨g, b, rfl, hg, h2, b2⟩
  have hW : W.heap.size ≤ w1.heap.size := HB.out.size
  have hsz := HB.out.size
  replace HB := Lib.hid (HB.out.trans (b2.mono hsz))
  replace FB := Lib.hid (FB.out.below b2 FB.out.lt)
  have H2 := Lib.hid h2
  have hgl : W.heap.size ≤ g ∧ W.heap.size ≤ b.v ∧ W.heap.size ≤ b.c ∧ W.heap.size ≤ b.p := ⟨Nat.le_trans hW hg.1, Nat.le_trans hW hg.2.1, Nat.le_trans hW hg.2.2.1, Nat.le_trans hW hg.2.2.2⟩
  clear b2 hsz h2 hg hW
  go_upto_region 6 with fail
  replace H2 := Lib.hid (H2.out.keep ((Below.refl w2.heap.size w2).alloc (Nat.le_refl _) (.cells #[.int .i64 0, .int .i64 0] 32)))
  have hsz := HB.out.size
  have X1 := Lib.hid (Blk.new w2 32 #[.int .i64 0, .int .i64 0])
  replace HB := Lib.hid (HB.out.alloc hsz (.cells #[.int .i64 0, .int .i64 0] 32))
  replace FB := Lib.hid (FB.out.alloc (.cells #[.int .i64 0, .int .i64 0] 32))
  clear hsz k0 k1 k2
  generalize w2.heap.size = gX1 at *
  generalize World.alloc w2 _ = w3 at *
  have x0 : w3.cell? ⟨gX1, 0, none⟩ = some (.int .i64 0) := X1.out.cell 0
  have k0 : w3.cell? ⟨W.heap.size, 0, none⟩ = some (.slice p.A p.n p.c) := FB.out.cell 0
  have k1 : w3.cell? ⟨W.heap.size, 1, none⟩ = some (.slice q.A q.n q.c) := FB.out.cell 1
  have k2 : w3.cell? ⟨W.heap.size, 2, none⟩ = some (.slice s.A s.n s.c) := FB.out.cell 2
  go_wp2_with fail
  refine (rhnew_yes (z1 := p.z) (z2 := q.z) (z3 := s.z) (fun i hi => absurd hi (Nat.not_lt_zero _)) hl (by omega) HC0.out).mono ?_
  rintro e w4 ⟨r, J, rfl, hr, h4, b4⟩
  have hW : W.heap.size ≤ w3.heap.size := HB.out.size
  have hsz := HB.out.size
  replace HB := Lib.hid (HB.out.trans (b4.mono hsz))
  replace FB := Lib.hid (FB.out.below b4 FB.out.lt)
  replace H2 := Lib.hid (H2.out.keep b4)
  have R4 := Lib.hid h4
  have hrl : ∀ y ∈ J.all r, W.heap.size ≤ y := fun y hy => Nat.le_trans hW (hr y hy)
  clear b4 hsz h4 hr hW X1 x0
  go_upto_region 9 with fail
  replace H2 := Lib.hid (H2.out.keep ((Below.refl w4.heap.size w4).alloc (Nat.le_refl _) (.cells #[.int .i64 0, .int .i64 0] 32)))
  replace R4 := Lib.hid (R4.out.keep ((Below.refl w4.heap.size w4).alloc (Nat.le_refl _) (.cells #[.int .i64 0, .int .i64 0] 32)))
  have hsz := HB.out.size
  have X2 := Lib.hid (Blk.new w4 32 #[.int .i64 0, .int .i64 0])
  replace HB := Lib.hid (HB.out.alloc hsz (.cells #[.int .i64 0, .int .i64 0] 32))
  replace FB := Lib.hid (FB.out.alloc (.cells #[.int .i64 0, .int .i64 0] 32))
  clear hsz k0 k1 k2
  generalize w4.heap.size = gX2 at *
  generalize World.alloc w4 _ = w5 at *
  have HI5 : Hid (HX W w5 g ⟨0, es0, p.n, p.z, q.n, q.z, s.n, s.z⟩ b r J ⟨p.A, p.c, q.A, q.c, s.A, s.c, none, 0⟩ Hp.new) := Lib.hid ⟨H2.out, R4.out, HB.out, ⟨fun y hy => by simp only [List.mem_cons, List.not_mem_nil, or_false] at hy; rcases hy with rfl | rfl | rfl | rfl <;> omega, hrl⟩⟩
  have HCC : Hid (HC W ⟨0, es0, p.n, p.z, q.n, q.z, s.n, s.z⟩ ⟨p.A, p.c, q.A, q.c, s.A, s.c, none, 0⟩) := Lib.hid ⟨⟨HP3.out, HQ3.out, HU3.out, (fun i hi => absurd hi (Nat.not_lt_zero _))⟩, by dsimp only; omega⟩
  go_wp2_with fail
  refine (hplay_any HI5.out HCC.out HR2.out HF2.out (HS2.out (by trivial)) Hp.new_far (by omega)).mono ?_
  rintro e w6 ⟨rfl, ⟨x, hx, hf⟩, k6⟩
  have HI6 := Lib.hid hx
  have HFX := Lib.hid hf
  have HLIM : Hid (x.lim 1000000) := Lib.hid (Hp.far_mono hf (c' := 1000000) (by omega)).1
  have HLO := Lib.hid hx.lo.1
  clear hx hf k6 HI5 H2 R4 X2 FB HB
  go_wp2_with fail
  refine (hstatus_any HI6.out.hp).mono ?_
  rintro e w6' ⟨rfl, b6⟩
  have HI6' := Lib.hid (HI6.out.on b6)
  clear b6 HI6
  unfold stC
  go_upto_region 12 with fail
  have GW := Lib.hid (Blk.new w6' 42 (stC x))
  have HI7 := Lib.hid (HI6'.out.on ((Below.refl w6'.heap.size w6').alloc (Nat.le_refl _) (.cells (stC x) 42)))
  clear HI6'
  unfold stC at GW HI7
  generalize w6'.heap.size = gw at *
  generalize World.alloc w6' _ = w7 at *
  have hgw : gw ∉ [g, b.v, b.c, b.p] := fun hy => by
    obtain ⟨T, cs, q, hT⟩ := HI7.out.hp.boxes gw hy
    rcases hT with rfl | rfl | rfl
    · exact GW.out.ne_ q (by decide) rfl
    · exact GW.out.ne_ q (by decide) rfl
    · exact GW.out.ne_ q (by decide) rfl
  obtain ⟨a, ha⟩ : ∃ a, plA off = a := ⟨_, rfl⟩
  obtain ⟨k, hk⟩ : ∃ k, whereI (plA off) = k := ⟨_, rfl⟩
  have hkk := where_bd off o0 o1
  rw [hk] at hkk
  have ea : 2088960 + off % 8192 = plA off := by unfold plA; omega
  have pb := plA_bd off o0
  have HKK := Lib.hid hk
  have HEA := Lib.hid ea
  clear hk ea ha a
  go_wp2_with fail
  rw [HEA.out]
  refine (rwhere_v pb.1 pb.2 HKK.out).mono ?_
  rintro e w7' ⟨rfl, b7⟩
  replace HI7 := Lib.hid (HI7.out.on b7)
  replace GW := Lib.hid (GW.out.below b7 GW.out.lt)
  clear b7
  rcases hkk with rfl | rfl | rfl | hk5
  · go_wp2_with fail
    refine (hwrite_any HI7.out.hp HLIM.out off u o0 o1 u0 u1).mono ?_
    rw [HKK.out]
    rw [wr_open (by omega)]
    rintro e w8 ⟨rfl, y8, k8⟩
    have H8 := Lib.hid y8
    have HB8 := Lib.hid (HI7.out.bw1 (fun _ h => h) k8)
    have G8 := Lib.hid (GW.out.kp k8 hgw)
    clear y8 k8 GW
    have hgw8 : gw ∉ [g, b.v, b.c, b.p] := hgw
    go_wp2_with fail
    refine rg_begin (S := fun w' => Blk w' gw 42 (stC x)) 16 #[false, false, false, false, false, false, false, false, false, false, false, false, false, false, false, false] (by kernel_rfl) (by kernel_rfl) (by kernel_rfl) ?_ (fun hHeld => ?_)
    · exact G8.out
    refine rg_take (i := 0) (d := some 53) (l := #[true, false, false, false, false, false, false, false, false, false, false, false, false, false, false, false]) (fuel := 15) (v := ?_) rfl (by kernel_rfl) (by kernel_rfl) (by kernel_rfl) (by kernel_rfl) (by kernel_rfl) (fun _ _ _ h => h) (by kernel_rfl) ?_ (by assumption) ?_
    rotate_left 1
    · (intro wS hSw; (try dsimp only at hSw); go_simp; try with_reducible rfl)
    try simp only [Act.put, List.setIfInBounds_toArray, List.set_cons_zero, List.set_cons_succ]
    refine rg_take (i := 1) (d := some 54) (l := #[true, true, false, false, false, false, false, false, false, false, false, false, false, false, false, false]) (fuel := 14) (v := ?_) rfl (by kernel_rfl) (by kernel_rfl) (by kernel_rfl) (by kernel_rfl) (by kernel_rfl) (fun _ _ _ h => h) (by kernel_rfl) ?_ (by assumption) ?_
    rotate_left 1
    · (intro wS hSw; (try dsimp only at hSw); go_simp; try with_reducible rfl)
    try simp only [Act.put, List.setIfInBounds_toArray, List.set_cons_zero, List.set_cons_succ]
    refine rg_take (i := 2) (d := some 55) (l := #[true, true, true, false, false, false, false, false, false, false, false, false, false, false, false, false]) (fuel := 13) (v := ?_) rfl (by kernel_rfl) (by kernel_rfl) (by kernel_rfl) (by kernel_rfl) (by kernel_rfl) (fun _ _ _ h => h) (by kernel_rfl) ?_ (by assumption) ?_
    rotate_left 1
    · (intro wS hSw; (try dsimp only at hSw); go_simp; try with_reducible rfl)
    try simp only [Act.put, List.setIfInBounds_toArray, List.set_cons_zero, List.set_cons_succ]
    refine rg_skip (i := 3) (d := some 56) (l := #[true, true, true, true, false, false, false, false, false, false, false, false, false, false, false, false]) (fuel := 12) rfl (by kernel_rfl) (by kernel_rfl) (by kernel_rfl) (by kernel_rfl) (by kernel_rfl) (fun _ _ _ h => h) (by kernel_rfl) (by assumption) ?_
    try simp only [Act.put, List.setIfInBounds_toArray, List.set_cons_zero, List.set_cons_succ]
    refine rg_skip (i := 4) (d := some 57) (l := #[true, true, true, true, true, false, false, false, false, false, false, false, false, false, false, false]) (fuel := 11) rfl (by kernel_rfl) (by kernel_rfl) (by kernel_rfl) (by kernel_rfl) (by kernel_rfl) (fun _ _ _ h => h) (by kernel_rfl) (by assumption) ?_
    try simp only [Act.put, List.setIfInBounds_toArray, List.set_cons_zero, List.set_cons_succ]
    refine rg_take (i := 5) (d := some 58) (l := #[true, true, true, true, true, true, false, false, false, false, false, false, false, false, false, false]) (fuel := 10) (v := ?_) rfl (by kernel_rfl) (by kernel_rfl) (by kernel_rfl) (by kernel_rfl) (by kernel_rfl) (fun _ _ _ h => h) (by kernel_rfl) ?_ (by assumption) ?_
    rotate_left 1
    · (intro wS hSw; (try dsimp only at hSw); go_simp; try with_reducible rfl)
    try simp only [Act.put, List.setIfInBounds_toArray, List.set_cons_zero, List.set_cons_succ]
    refine rg_take (i := 6) (d := some 59) (l := #[true, true, true, true, true, true, true, false, false, false, false, false, false, false, false, false]) (fuel := 9) (v := ?_) rfl (by kernel_rfl) (by kernel_rfl) (by kernel_rfl) (by kernel_rfl) (by kernel_rfl) (fun _ _ _ h => h) (by kernel_rfl) ?_ (by assumption) ?_
    rotate_left 1
    · (intro wS hSw; (try dsimp only at hSw); go_simp; try with_reducible rfl)
    try simp only [Act.put, List.setIfInBounds_toArray, List.set_cons_zero, List.set_cons_succ]
    refine rg_skip (i := 7) (d := some 60) (l := #[true, true, true, true, true, true, true, true, false, false, false, false, false, false, false, false]) (fuel := 8) rfl (by kernel_rfl) (by kernel_rfl) (by kernel_rfl) (by kernel_rfl) (by kernel_rfl) (fun _ _ _ h => h) (by kernel_rfl) (by assumption) ?_
    try simp only [Act.put, List.setIfInBounds_toArray, List.set_cons_zero, List.set_cons_succ]
    refine rg_skip (i := 8) (d := some 61) (l := #[true, true, true, true, true, true, true, true, true, false, false, false, false, false, false, false]) (fuel := 7) rfl (by kernel_rfl) (by kernel_rfl) (by kernel_rfl) (by kernel_rfl) (by kernel_rfl) (fun _ _ _ h => h) (by kernel_rfl) (by assumption) ?_
    try simp only [Act.put, List.setIfInBounds_toArray, List.set_cons_zero, List.set_cons_succ]
    refine rg_take (i := 9) (d := some 62) (l := #[true, true, true, true, true, true, true, true, true, true, false, false, false, false, false, false]) (fuel := 6) (v := ?_) rfl (by kernel_rfl) (by kernel_rfl) (by kernel_rfl) (by kernel_rfl) (by kernel_rfl) (fun _ _ _ h => h) (by kernel_rfl) ?_ (by assumption) ?_
    rotate_left 1
    · (intro wS hSw; (try dsimp only at hSw); go_simp; try with_reducible rfl)
    try simp only [Act.put, List.setIfInBounds_toArray, List.set_cons_zero, List.set_cons_succ]
    refine rg_take (i := 10) (d := some 63) (l := #[true, true, true, true, true, true, true, true, true, true, true, false, false, false, false, false]) (fuel := 5) (v := ?_) rfl (by kernel_rfl) (by kernel_rfl) (by kernel_rfl) (by kernel_rfl) (by kernel_rfl) (fun _ _ _ h => h) (by kernel_rfl) ?_ (by assumption) ?_
    rotate_left 1
    · (intro wS hSw; (try dsimp only at hSw); go_simp; try with_reducible rfl)
    try simp only [Act.put, List.setIfInBounds_toArray, List.set_cons_zero, List.set_cons_succ]
    refine rg_take (i := 11) (d := some 64) (l := #[true, true, true, true, true, true, true, true, true, true, true, true, false, false, false, false]) (fuel := 4) (v := ?_) rfl (by kernel_rfl) (by kernel_rfl) (by kernel_rfl) (by kernel_rfl) (by kernel_rfl) (fun _ _ _ h => h) (by kernel_rfl) ?_ (by assumption) ?_
    rotate_left 1
    · (intro wS hSw; (try dsimp only at hSw); go_simp; try with_reducible rfl)
    try simp only [Act.put, List.setIfInBounds_toArray, List.set_cons_zero, List.set_cons_succ]
    refine rg_take (i := 13) (d := some 66) (l := #[true, true, true, true, true, true, true, true, true, true, true, true, false, true, false, false]) (fuel := 3) (v := .agg (stC x)) rfl (by kernel_rfl) (by kernel_rfl) (by kernel_rfl) (by kernel_rfl) (by kernel_rfl) (fun _ _ _ h => h) (by kernel_rfl) ?_ (by assumption) ?_
    · (intro wS hSw; (try dsimp only at hSw); exact exec_load_row 42 (.tmp 13) rfl gw rfl 42 (stC x) (0, 0) _ hSw Tryz.underlying42 rfl (by kernel_rfl))
    try simp only [Act.put, List.setIfInBounds_toArray, List.set_cons_zero, List.set_cons_succ]
    refine rg_next (i := 12) (l := #[true, true, true, true, true, true, true, true, true, true, true, true, true, true, false, false]) (fuel := 2) (by kernel_rfl) rfl (by kernel_rfl) (by kernel_rfl) (fun K hK => ?_)
    go_simp
    (go_at_call 13)
    refine (hstatus_any (H8.out.kp0 (Kp.refl _ _).drew)).mono ?_
    rintro e w9 ⟨rfl, b9⟩
    replace b9 : Below w8.heap.size w8 w9 := (Below.refl _ _).drew.trans (b9.mono (Nat.le_refl _))
    have H9 := Lib.hid (H8.out.keep b9)
    have G9 := Lib.hid (G8.out.below b9 G8.out.lt)
    have HB9 := Lib.hid (HB8.out.trans (b9.mono HB8.out.size))
    clear b9 H8 G8 HB8
    first | (refine hK.out _ _ ?_ (fun hHeld => ?_)) | (go_wp2_with fail; refine hK.out _ _ ?_ (fun hHeld => ?_))
    · (try dsimp only); exact G9.out
    clear hK K
    try simp only [Act.put, List.setIfInBounds_toArray, List.set_cons_zero, List.set_cons_succ]
    refine rg_take (i := 14) (d := some 67) (l := #[true, true, true, true, true, true, true, true, true, true, true, true, true, true, true, false]) (fuel := 1) (v := .bool false) rfl (by kernel_rfl) (by kernel_rfl) (by kernel_rfl) (by kernel_rfl) (by kernel_rfl) (fun _ _ _ h => h) (by kernel_rfl) ?_ (by assumption) ?_
    · (intro wS hSw; (try dsimp only at hSw); (unfold stC; go_simp))
    try simp only [Act.put, List.setIfInBounds_toArray, List.set_cons_zero, List.set_cons_succ]
    refine rg_take (i := 15) (d := some 68) (l := #[true, true, true, true, true, true, true, true, true, true, true, true, true, true, true, true]) (fuel := 0) (v := ?_) rfl (by kernel_rfl) (by kernel_rfl) (by kernel_rfl) (by kernel_rfl) (by kernel_rfl) (fun _ _ _ h => h) (by kernel_rfl) ?_ (by assumption) ?_
    rotate_left 1
    · (intro wS hSw; (try dsimp only at hSw); go_simp; try with_reducible rfl)
    try simp only [Act.put, List.setIfInBounds_toArray, List.set_cons_zero, List.set_cons_succ]
    refine wpAnyH_done (by kernel_rfl) ?_ _
    clear hHeld
    go_wp2_with fail
    refine (hstatus_any H9.out).mono ?_
    rintro e w10 ⟨rfl, b10⟩
    have H10 := Lib.hid (H9.out.keep b10)
    have HB10 := Lib.hid (HB9.out.trans (b10.mono HB9.out.size))
    clear b10 H9 HB9 G9
    unfold stC
    go_upto_region 17 with fail
    have GN := Lib.hid (Blk.new w10 42 (stC x))
    have H11 := Lib.hid (H10.out.keep ((Below.refl w10.heap.size w10).alloc (Nat.le_refl _) (.cells (stC x) 42)))
    have HB11 := Lib.hid (HB10.out.alloc HB10.out.size (.cells (stC x) 42))
    clear H10 HB10
    try unfold stC at GN H11 HB11
    generalize w10.heap.size = gn at *
    generalize World.alloc w10 _ = w11 at *
    have hgn : gn ∉ [g, b.v, b.c, b.p] := fun hy => by
      obtain ⟨T, cs, q, hT⟩ := H11.out.boxes gn hy
      rcases hT with rfl | rfl | rfl
      · exact GN.out.ne_ q (by decide) rfl
      · exact GN.out.ne_ q (by decide) rfl
      · exact GN.out.ne_ q (by decide) rfl
    go_wp2_with fail
    refine (hread_any H11.out HLIM.out off o0 o1).mono ?_
    rw [HKK.out]
    rw [rv_open.1, rv_open.2]
    rintro e w12 ⟨rfl, y12, k12⟩
    have H12 := Lib.hid y12
    have HB12 := Lib.hid (k12.onto HB11.out HB11.out.size (fun z hz => HLO.out z hz))
    have G12 := Lib.hid (GN.out.kp k12 hgn)
    clear y12 k12 H11 HB11 GN
    go_wp2_with fail
    refine rg_begin (S := fun w' => Blk w' gn 42 (stC x)) 9 #[false, false, false, false, false, false, false, false, false] (by kernel_rfl) (by kernel_rfl) (by kernel_rfl) ?_ (fun hHeld => ?_)
    · exact G12.out
    refine rg_take (i := 0) (d := some 76) (l := #[true, false, false, false, false, false, false, false, false]) (fuel := 8) (v := ?_) rfl (by kernel_rfl) (by kernel_rfl) (by kernel_rfl) (by kernel_rfl) (by kernel_rfl) (fun _ _ _ h => h) (by kernel_rfl) ?_ (by assumption) ?_
    rotate_left 1
    · (intro wS hSw; (try dsimp only at hSw); go_simp; try with_reducible rfl)
    try simp only [Act.put, List.setIfInBounds_toArray, List.set_cons_zero, List.set_cons_succ]
    refine rg_take (i := 1) (d := some 77) (l := #[true, true, false, false, false, false, false, false, false]) (fuel := 7) (v := ?_) rfl (by kernel_rfl) (by kernel_rfl) (by kernel_rfl) (by kernel_rfl) (by kernel_rfl) (fun _ _ _ h => h) (by kernel_rfl) ?_ (by assumption) ?_
    rotate_left 1
    · (intro wS hSw; (try dsimp only at hSw); go_simp; try with_reducible rfl)
    try simp only [Act.put, List.setIfInBounds_toArray, List.set_cons_zero, List.set_cons_succ]
    refine rg_take (i := 2) (d := some 78) (l := #[true, true, true, false, false, false, false, false, false]) (fuel := 6) (v := ?_) rfl (by kernel_rfl) (by kernel_rfl) (by kernel_rfl) (by kernel_rfl) (by kernel_rfl) (fun _ _ _ h => h) (by kernel_rfl) ?_ (by assumption) ?_
    rotate_left 1
    · (intro wS hSw; (try dsimp only at hSw); go_simp; try with_reducible rfl)
    try simp only [Act.put, List.setIfInBounds_toArray, List.set_cons_zero, List.set_cons_succ]
    refine rg_take (i := 3) (d := some 79) (l := #[true, true, true, true, false, false, false, false, false]) (fuel := 5) (v := ?_) rfl (by kernel_rfl) (by kernel_rfl) (by kernel_rfl) (by kernel_rfl) (by kernel_rfl) (fun _ _ _ h => h) (by kernel_rfl) ?_ (by assumption) ?_
    rotate_left 1
    · (intro wS hSw; (try dsimp only at hSw); go_simp; try with_reducible rfl)
    try simp only [Act.put, List.setIfInBounds_toArray, List.set_cons_zero, List.set_cons_succ]
    refine rg_take (i := 5) (d := some 81) (l := #[true, true, true, true, false, true, false, false, false]) (fuel := 4) (v := .agg (stC x)) rfl (by kernel_rfl) (by kernel_rfl) (by kernel_rfl) (by kernel_rfl) (by kernel_rfl) (fun _ _ _ h => h) (by kernel_rfl) ?_ (by assumption) ?_
    · (intro wS hSw; (try dsimp only at hSw); exact exec_load_row 42 (.tmp 15) rfl gn rfl 42 (stC x) (0, 0) _ hSw Tryz.underlying42 rfl (by kernel_rfl))
    try simp only [Act.put, List.setIfInBounds_toArray, List.set_cons_zero, List.set_cons_succ]
    refine rg_next (i := 4) (l := #[true, true, true, true, true, true, false, false, false]) (fuel := 3) (by kernel_rfl) rfl (by kernel_rfl) (by kernel_rfl) (fun K hK => ?_)
    go_simp
    (go_at_call 13)
    refine (hstatus_any (H12.out.kp0 (Kp.refl _ _).drew)).mono ?_
    rintro e w13 ⟨rfl, b13⟩
    replace b13 : Below w12.heap.size w12 w13 := (Below.refl _ _).drew.trans (b13.mono (Nat.le_refl _))
    have G13 := Lib.hid (G12.out.below b13 G12.out.lt)
    have HB13 := Lib.hid (HB12.out.trans (b13.mono HB12.out.size))
    clear b13 H12 G12 HB12
    first | (refine hK.out _ _ ?_ (fun hHeld => ?_)) | (go_wp2_with fail; refine hK.out _ _ ?_ (fun hHeld => ?_))
    · (try dsimp only); exact G13.out
    clear hK K
    try simp only [Act.put, List.setIfInBounds_toArray, List.set_cons_zero, List.set_cons_succ]
    refine rg_take (i := 6) (d := some 82) (l := #[true, true, true, true, true, true, true, false, false]) (fuel := 2) (v := .bool true) rfl (by kernel_rfl) (by kernel_rfl) (by kernel_rfl) (by kernel_rfl) (by kernel_rfl) (fun _ _ _ h => h) (by kernel_rfl) ?_ (by assumption) ?_
    · (intro wS hSw; (try dsimp only at hSw); (unfold stC; go_simp))
    try simp only [Act.put, List.setIfInBounds_toArray, List.set_cons_zero, List.set_cons_succ]
    refine rg_take (i := 7) (d := some 83) (l := #[true, true, true, true, true, true, true, true, false]) (fuel := 1) (v := ?_) rfl (by kernel_rfl) (by kernel_rfl) (by kernel_rfl) (by kernel_rfl) (by kernel_rfl) (fun _ _ _ h => h) (by kernel_rfl) ?_ (by assumption) ?_
    rotate_left 1
    · (intro wS hSw; (try dsimp only at hSw); go_simp; try with_reducible rfl)
    try simp only [Act.put, List.setIfInBounds_toArray, List.set_cons_zero, List.set_cons_succ]
    refine rg_take (i := 8) (d := some 8) (l := #[true, true, true, true, true, true, true, true, true]) (fuel := 0) (v := ?_) rfl (by kernel_rfl) (by kernel_rfl) (by kernel_rfl) (by kernel_rfl) (by kernel_rfl) (fun _ _ _ h => h) (by kernel_rfl) ?_ (by assumption) ?_
    rotate_left 1
    · (intro wS hSw; (try dsimp only at hSw); go_simp; try with_reducible rfl)
    try simp only [Act.put, List.setIfInBounds_toArray, List.set_cons_zero, List.set_cons_succ]
    refine wpAnyH_done (by kernel_rfl) ?_ _
    clear hHeld
    go_wp2_with fail
    go_ret
    exact ⟨by simp, HB13.out⟩
  · go_wp2_with fail
    refine (hwrite_any HI7.out.hp HLIM.out off u o0 o1 u0 u1).mono ?_
    rw [HKK.out]
    rw [wr_open (by omega)]
    rintro e w8 ⟨rfl, y8, k8⟩
    have H8 := Lib.hid y8
    have HB8 := Lib.hid (HI7.out.bw1 (fun _ h => h) k8)
    have G8 := Lib.hid (GW.out.kp k8 hgw)
    clear y8 k8 GW
    have hgw8 : gw ∉ [g, b.v, b.c, b.p] := hgw
    go_wp2_with fail
    refine rg_begin (S := fun w' => Blk w' gw 42 (stC x)) 16 #[false, false, false, false, false, false, false, false, false, false, false, false, false, false, false, false] (by kernel_rfl) (by kernel_rfl) (by kernel_rfl) ?_ (fun hHeld => ?_)
    · exact G8.out
    refine rg_take (i := 0) (d := some 53) (l := #[true, false, false, false, false, false, false, false, false, false, false, false, false, false, false, false]) (fuel := 15) (v := ?_) rfl (by kernel_rfl) (by kernel_rfl) (by kernel_rfl) (by kernel_rfl) (by kernel_rfl) (fun _ _ _ h => h) (by kernel_rfl) ?_ (by assumption) ?_
    rotate_left 1
    · (intro wS hSw; (try dsimp only at hSw); go_simp; try with_reducible rfl)
    try simp only [Act.put, List.setIfInBounds_toArray, List.set_cons_zero, List.set_cons_succ]
    refine rg_take (i := 1) (d := some 54) (l := #[true, true, false, false, false, false, false, false, false, false, false, false, false, false, false, false]) (fuel := 14) (v := ?_) rfl (by kernel_rfl) (by kernel_rfl) (by kernel_rfl) (by kernel_rfl) (by kernel_rfl) (fun _ _ _ h => h) (by kernel_rfl) ?_ (by assumption) ?_
    rotate_left 1
    · (intro wS hSw; (try dsimp only at hSw); go_simp; try with_reducible rfl)
    try simp only [Act.put, List.setIfInBounds_toArray, List.set_cons_zero, List.set_cons_succ]
    refine rg_take (i := 2) (d := some 55) (l := #[true, true, true, false, false, false, false, false, false, false, false, false, false, false, false, false]) (fuel := 13) (v := ?_) rfl (by kernel_rfl) (by kernel_rfl) (by kernel_rfl) (by kernel_rfl) (by kernel_rfl) (fun _ _ _ h => h) (by kernel_rfl) ?_ (by assumption) ?_
    rotate_left 1
    · (intro wS hSw; (try dsimp only at hSw); go_simp; try with_reducible rfl)
    try simp only [Act.put, List.setIfInBounds_toArray, List.set_cons_zero, List.set_cons_succ]
    refine rg_take (i := 3) (d := some 56) (l := #[true, true, true, true, false, false, false, false, false, false, false, false, false, false, false, false]) (fuel := 12) (v := ?_) rfl (by kernel_rfl) (by kernel_rfl) (by kernel_rfl) (by kernel_rfl) (by kernel_rfl) (fun _ _ _ h => h) (by kernel_rfl) ?_ (by assumption) ?_
    rotate_left 1
    · (intro wS hSw; (try dsimp only at hSw); go_simp; try with_reducible rfl)
    try simp only [Act.put, List.setIfInBounds_toArray, List.set_cons_zero, List.set_cons_succ]
    refine rg_take (i := 4) (d := some 57) (l := #[true, true, true, true, true, false, false, false, false, false, false, false, false, false, false, false]) (fuel := 11) (v := ?_) rfl (by kernel_rfl) (by kernel_rfl) (by kernel_rfl) (by kernel_rfl) (by kernel_rfl) (fun _ _ _ h => h) (by kernel_rfl) ?_ (by assumption) ?_
    rotate_left 1
    · (intro wS hSw; (try dsimp only at hSw); go_simp; try with_reducible rfl)
    try simp only [Act.put, List.setIfInBounds_toArray, List.set_cons_zero, List.set_cons_succ]
    refine rg_take (i := 5) (d := some 58) (l := #[true, true, true, true, true, true, false, false, false, false, false, false, false, false, false, false]) (fuel := 10) (v := ?_) rfl (by kernel_rfl) (by kernel_rfl) (by kernel_rfl) (by kernel_rfl) (by kernel_rfl) (fun _ _ _ h => h) (by kernel_rfl) ?_ (by assumption) ?_
    rotate_left 1
    · (intro wS hSw; (try dsimp only at hSw); go_simp; try with_reducible rfl)
    try simp only [Act.put, List.setIfInBounds_toArray, List.set_cons_zero, List.set_cons_succ]
    refine rg_take (i := 6) (d := some 59) (l := #[true, true, true, true, true, true, true, false, false, false, false, false, false, false, false, false]) (fuel := 9) (v := ?_) rfl (by kernel_rfl) (by kernel_rfl) (by kernel_rfl) (by kernel_rfl) (by kernel_rfl) (fun _ _ _ h => h) (by kernel_rfl) ?_ (by assumption) ?_
    rotate_left 1
    · (intro wS hSw; (try dsimp only at hSw); go_simp; try with_reducible rfl)
    try simp only [Act.put, List.setIfInBounds_toArray, List.set_cons_zero, List.set_cons_succ]
    refine rg_skip (i := 7) (d := some 60) (l := #[true, true, true, true, true, true, true, true, false, false, false, false, false, false, false, false]) (fuel := 8) rfl (by kernel_rfl) (by kernel_rfl) (by kernel_rfl) (by kernel_rfl) (by kernel_rfl) (fun _ _ _ h => h) (by kernel_rfl) (by assumption) ?_
    try simp only [Act.put, List.setIfInBounds_toArray, List.set_cons_zero, List.set_cons_succ]
    refine rg_skip (i := 8) (d := some 61) (l := #[true, true, true, true, true, true, true, true, true, false, false, false, false, false, false, false]) (fuel := 7) rfl (by kernel_rfl) (by kernel_rfl) (by kernel_rfl) (by kernel_rfl) (by kernel_rfl) (fun _ _ _ h => h) (by kernel_rfl) (by assumption) ?_
    try simp only [Act.put, List.setIfInBounds_toArray, List.set_cons_zero, List.set_cons_succ]
    refine rg_take (i := 9) (d := some 62) (l := #[true, true, true, true, true, true, true, true, true, true, false, false, false, false, false, false]) (fuel := 6) (v := ?_) rfl (by kernel_rfl) (by kernel_rfl) (by kernel_rfl) (by kernel_rfl) (by kernel_rfl) (fun _ _ _ h => h) (by kernel_rfl) ?_ (by assumption) ?_
    rotate_left 1
    · (intro wS hSw; (try dsimp only at hSw); go_simp; try with_reducible rfl)
    try simp only [Act.put, List.setIfInBounds_toArray, List.set_cons_zero, List.set_cons_succ]
    refine rg_take (i := 10) (d := some 63) (l := #[true, true, true, true, true, true, true, true, true, true, true, false, false, false, false, false]) (fuel := 5) (v := ?_) rfl (by kernel_rfl) (by kernel_rfl) (by kernel_rfl) (by kernel_rfl) (by kernel_rfl) (fun _ _ _ h => h) (by kernel_rfl) ?_ (by assumption) ?_
    rotate_left 1
    · (intro wS hSw; (try dsimp only at hSw); go_simp; try with_reducible rfl)
    try simp only [Act.put, List.setIfInBounds_toArray, List.set_cons_zero, List.set_cons_succ]
    refine rg_take (i := 11) (d := some 64) (l := #[true, true, true, true, true, true, true, true, true, true, true, true, false, false, false, false]) (fuel := 4) (v := ?_) rfl (by kernel_rfl) (by kernel_rfl) (by kernel_rfl) (by kernel_rfl) (by kernel_rfl) (fun _ _ _ h => h) (by kernel_rfl) ?_ (by assumption) ?_
    rotate_left 1
    · (intro wS hSw; (try dsimp only at hSw); go_simp; try with_reducible rfl)
    try simp only [Act.put, List.setIfInBounds_toArray, List.set_cons_zero, List.set_cons_succ]
    refine rg_take (i := 13) (d := some 66) (l := #[true, true, true, true, true, true, true, true, true, true, true, true, false, true, false, false]) (fuel := 3) (v := .agg (stC x)) rfl (by kernel_rfl) (by kernel_rfl) (by kernel_rfl) (by kernel_rfl) (by kernel_rfl) (fun _ _ _ h => h) (by kernel_rfl) ?_ (by assumption) ?_
    · (intro wS hSw; (try dsimp only at hSw); exact exec_load_row 42 (.tmp 13) rfl gw rfl 42 (stC x) (0, 0) _ hSw Tryz.underlying42 rfl (by kernel_rfl))
    try simp only [Act.put, List.setIfInBounds_toArray, List.set_cons_zero, List.set_cons_succ]
    refine rg_next (i := 12) (l := #[true, true, true, true, true, true, true, true, true, true, true, true, true, true, false, false]) (fuel := 2) (by kernel_rfl) rfl (by kernel_rfl) (by kernel_rfl) (fun K hK => ?_)
    go_simp
    (go_at_call 13)
    refine (hstatus_any (H8.out.kp0 (Kp.refl _ _).drew)).mono ?_
    rintro e w9 ⟨rfl, b9⟩
    replace b9 : Below w8.heap.size w8 w9 := (Below.refl _ _).drew.trans (b9.mono (Nat.le_refl _))
    have H9 := Lib.hid (H8.out.keep b9)
    have G9 := Lib.hid (G8.out.below b9 G8.out.lt)
    have HB9 := Lib.hid (HB8.out.trans (b9.mono HB8.out.size))
    clear b9 H8 G8 HB8
    first | (refine hK.out _ _ ?_ (fun hHeld => ?_)) | (go_wp2_with fail; refine hK.out _ _ ?_ (fun hHeld => ?_))
    · (try dsimp only); exact G9.out
    clear hK K
    try simp only [Act.put, List.setIfInBounds_toArray, List.set_cons_zero, List.set_cons_succ]
    refine rg_take (i := 14) (d := some 67) (l := #[true, true, true, true, true, true, true, true, true, true, true, true, true, true, true, false]) (fuel := 1) (v := .bool false) rfl (by kernel_rfl) (by kernel_rfl) (by kernel_rfl) (by kernel_rfl) (by kernel_rfl) (fun _ _ _ h => h) (by kernel_rfl) ?_ (by assumption) ?_
    · (intro wS hSw; (try dsimp only at hSw); (unfold stC; go_simp))
    try simp only [Act.put, List.setIfInBounds_toArray, List.set_cons_zero, List.set_cons_succ]
    refine rg_take (i := 15) (d := some 68) (l := #[true, true, true, true, true, true, true, true, true, true, true, true, true, true, true, true]) (fuel := 0) (v := ?_) rfl (by kernel_rfl) (by kernel_rfl) (by kernel_rfl) (by kernel_rfl) (by kernel_rfl) (fun _ _ _ h => h) (by kernel_rfl) ?_ (by assumption) ?_
    rotate_left 1
    · (intro wS hSw; (try dsimp only at hSw); go_simp; try with_reducible rfl)
    try simp only [Act.put, List.setIfInBounds_toArray, List.set_cons_zero, List.set_cons_succ]
    refine wpAnyH_done (by kernel_rfl) ?_ _
    clear hHeld
    go_wp2_with fail
    refine (hstatus_any H9.out).mono ?_
    rintro e w10 ⟨rfl, b10⟩
    have H10 := Lib.hid (H9.out.keep b10)
    have HB10 := Lib.hid (HB9.out.trans (b10.mono HB9.out.size))
    clear b10 H9 HB9 G9
    unfold stC
    go_upto_region 17 with fail
    have GN := Lib.hid (Blk.new w10 42 (stC x))
    have H11 := Lib.hid (H10.out.keep ((Below.refl w10.heap.size w10).alloc (Nat.le_refl _) (.cells (stC x) 42)))
    have HB11 := Lib.hid (HB10.out.alloc HB10.out.size (.cells (stC x) 42))
    clear H10 HB10
    try unfold stC at GN H11 HB11
    generalize w10.heap.size = gn at *
    generalize World.alloc w10 _ = w11 at *
    have hgn : gn ∉ [g, b.v, b.c, b.p] := fun hy => by
      obtain ⟨T, cs, q, hT⟩ := H11.out.boxes gn hy
      rcases hT with rfl | rfl | rfl
      · exact GN.out.ne_ q (by decide) rfl
      · exact GN.out.ne_ q (by decide) rfl
      · exact GN.out.ne_ q (by decide) rfl
    go_wp2_with fail
    refine (hread_any H11.out HLIM.out off o0 o1).mono ?_
    rw [HKK.out]
    obtain ⟨v, hv⟩ : ∃ v, x.rv ⟨0, es0, p.n, p.z, q.n, q.z, s.n, s.z⟩ 3 (regI (plA off)) = v := ⟨_, rfl⟩
    obtain ⟨x2, hx2⟩ : ∃ x2, x.rd ⟨0, es0, p.n, p.z, q.n, q.z, s.n, s.z⟩ 3 (regI (plA off)) = x2 := ⟨_, rfl⟩
    rw [hv, hx2]
    clear hv hx2
    rintro e w12 ⟨rfl, y12, k12⟩
    have H12 := Lib.hid y12
    have HB12 := Lib.hid (k12.onto HB11.out HB11.out.size (fun z hz => HLO.out z hz))
    have G12 := Lib.hid (GN.out.kp k12 hgn)
    clear y12 k12 H11 HB11 GN
    go_wp2_with fail
    go_ret
    exact ⟨by simp, HB12.out⟩
  · go_wp2_with fail
    refine (hwrite_any HI7.out.hp HLIM.out off u o0 o1 u0 u1).mono ?_
    rw [HKK.out]
    rw [wr_open (by omega)]
    rintro e w8 ⟨rfl, y8, k8⟩
    have H8 := Lib.hid y8
    have HB8 := Lib.hid (HI7.out.bw1 (fun _ h => h) k8)
    have G8 := Lib.hid (GW.out.kp k8 hgw)
    clear y8 k8 GW
    have hgw8 : gw ∉ [g, b.v, b.c, b.p] := hgw
    go_wp2_with fail
    refine rg_begin (S := fun w' => Blk w' gw 42 (stC x)) 16 #[false, false, false, false, false, false, false, false, false, false, false, false, false, false, false, false] (by kernel_rfl) (by kernel_rfl) (by kernel_rfl) ?_ (fun hHeld => ?_)
    · exact G8.out
    refine rg_take (i := 0) (d := some 53) (l := #[true, false, false, false, false, false, false, false, false, false, false, false, false, false, false, false]) (fuel := 15) (v := ?_) rfl (by kernel_rfl) (by kernel_rfl) (by kernel_rfl) (by kernel_rfl) (by kernel_rfl) (fun _ _ _ h => h) (by kernel_rfl) ?_ (by assumption) ?_
    rotate_left 1
    · (intro wS hSw; (try dsimp only at hSw); go_simp; try with_reducible rfl)
    try simp only [Act.put, List.setIfInBounds_toArray, List.set_cons_zero, List.set_cons_succ]
    refine rg_take (i := 1) (d := some 54) (l := #[true, true, false, false, false, false, false, false, false, false, false, false, false, false, false, false]) (fuel := 14) (v := ?_) rfl (by kernel_rfl) (by kernel_rfl) (by kernel_rfl) (by kernel_rfl) (by kernel_rfl) (fun _ _ _ h => h) (by kernel_rfl) ?_ (by assumption) ?_
    rotate_left 1
    · (intro wS hSw; (try dsimp only at hSw); go_simp; try with_reducible rfl)
    try simp only [Act.put, List.setIfInBounds_toArray, List.set_cons_zero, List.set_cons_succ]
    refine rg_take (i := 2) (d := some 55) (l := #[true, true, true, false, false, false, false, false, false, false, false, false, false, false, false, false]) (fuel := 13) (v := ?_) rfl (by kernel_rfl) (by kernel_rfl) (by kernel_rfl) (by kernel_rfl) (by kernel_rfl) (fun _ _ _ h => h) (by kernel_rfl) ?_ (by assumption) ?_
    rotate_left 1
    · (intro wS hSw; (try dsimp only at hSw); go_simp; try with_reducible rfl)
    try simp only [Act.put, List.setIfInBounds_toArray, List.set_cons_zero, List.set_cons_succ]
    refine rg_take (i := 3) (d := some 56) (l := #[true, true, true, true, false, false, false, false, false, false, false, false, false, false, false, false]) (fuel := 12) (v := ?_) rfl (by kernel_rfl) (by kernel_rfl) (by kernel_rfl) (by kernel_rfl) (by kernel_rfl) (fun _ _ _ h => h) (by kernel_rfl) ?_ (by assumption) ?_
    rotate_left 1
    · (intro wS hSw; (try dsimp only at hSw); go_simp; try with_reducible rfl)
    try simp only [Act.put, List.setIfInBounds_toArray, List.set_cons_zero, List.set_cons_succ]
    refine rg_take (i := 4) (d := some 57) (l := #[true, true, true, true, true, false, false, false, false, false, false, false, false, false, false, false]) (fuel := 11) (v := ?_) rfl (by kernel_rfl) (by kernel_rfl) (by kernel_rfl) (by kernel_rfl) (by kernel_rfl) (fun _ _ _ h => h) (by kernel_rfl) ?_ (by assumption) ?_
    rotate_left 1
    · (intro wS hSw; (try dsimp only at hSw); go_simp; try with_reducible rfl)
    try simp only [Act.put, List.setIfInBounds_toArray, List.set_cons_zero, List.set_cons_succ]
    refine rg_take (i := 5) (d := some 58) (l := #[true, true, true, true, true, true, false, false, false, false, false, false, false, false, false, false]) (fuel := 10) (v := ?_) rfl (by kernel_rfl) (by kernel_rfl) (by kernel_rfl) (by kernel_rfl) (by kernel_rfl) (fun _ _ _ h => h) (by kernel_rfl) ?_ (by assumption) ?_
    rotate_left 1
    · (intro wS hSw; (try dsimp only at hSw); go_simp; try with_reducible rfl)
    try simp only [Act.put, List.setIfInBounds_toArray, List.set_cons_zero, List.set_cons_succ]
    refine rg_take (i := 6) (d := some 59) (l := #[true, true, true, true, true, true, true, false, false, false, false, false, false, false, false, false]) (fuel := 9) (v := ?_) rfl (by kernel_rfl) (by kernel_rfl) (by kernel_rfl) (by kernel_rfl) (by kernel_rfl) (fun _ _ _ h => h) (by kernel_rfl) ?_ (by assumption) ?_
    rotate_left 1
    · (intro wS hSw; (try dsimp only at hSw); go_simp; try with_reducible rfl)
    try simp only [Act.put, List.setIfInBounds_toArray, List.set_cons_zero, List.set_cons_succ]
    refine rg_take (i := 7) (d := some 60) (l := #[true, true, true, true, true, true, true, true, false, false, false, false, false, false, false, false]) (fuel := 8) (v := ?_) rfl (by kernel_rfl) (by kernel_rfl) (by kernel_rfl) (by kernel_rfl) (by kernel_rfl) (fun _ _ _ h => h) (by kernel_rfl) ?_ (by assumption) ?_
    rotate_left 1
    · (intro wS hSw; (try dsimp only at hSw); go_simp; try with_reducible rfl)
    try simp only [Act.put, List.setIfInBounds_toArray, List.set_cons_zero, List.set_cons_succ]
    refine rg_take (i := 8) (d := some 61) (l := #[true, true, true, true, true, true, true, true, true, false, false, false, false, false, false, false]) (fuel := 7) (v := ?_) rfl (by kernel_rfl) (by kernel_rfl) (by kernel_rfl) (by kernel_rfl) (by kernel_rfl) (fun _ _ _ h => h) (by kernel_rfl) ?_ (by assumption) ?_
    rotate_left 1
    · (intro wS hSw; (try dsimp only at hSw); go_simp; try with_reducible rfl)
    try simp only [Act.put, List.setIfInBounds_toArray, List.set_cons_zero, List.set_cons_succ]
    refine rg_take (i := 9) (d := some 62) (l := #[true, true, true, true, true, true, true, true, true, true, false, false, false, false, false, false]) (fuel := 6) (v := ?_) rfl (by kernel_rfl) (by kernel_rfl) (by kernel_rfl) (by kernel_rfl) (by kernel_rfl) (fun _ _ _ h => h) (by kernel_rfl) ?_ (by assumption) ?_
    rotate_left 1
    · (intro wS hSw; (try dsimp only at hSw); go_simp; try with_reducible rfl)
    try simp only [Act.put, List.setIfInBounds_toArray, List.set_cons_zero, List.set_cons_succ]
    refine rg_take (i := 10) (d := some 63) (l := #[true, true, true, true, true, true, true, true, true, true, true, false, false, false, false, false]) (fuel := 5) (v := ?_) rfl (by kernel_rfl) (by kernel_rfl) (by kernel_rfl) (by kernel_rfl) (by kernel_rfl) (fun _ _ _ h => h) (by kernel_rfl) ?_ (by assumption) ?_
    rotate_left 1
    · (intro wS hSw; (try dsimp only at hSw); go_simp; try with_reducible rfl)
    try simp only [Act.put, List.setIfInBounds_toArray, List.set_cons_zero, List.set_cons_succ]
    refine rg_take (i := 11) (d := some 64) (l := #[true, true, true, true, true, true, true, true, true, true, true, true, false, false, false, false]) (fuel := 4) (v := ?_) rfl (by kernel_rfl) (by kernel_rfl) (by kernel_rfl) (by kernel_rfl) (by kernel_rfl) (fun _ _ _ h => h) (by kernel_rfl) ?_ (by assumption) ?_
    rotate_left 1
    · (intro wS hSw; (try dsimp only at hSw); go_simp; try with_reducible rfl)
    try simp only [Act.put, List.setIfInBounds_toArray, List.set_cons_zero, List.set_cons_succ]
    refine rg_take (i := 13) (d := some 66) (l := #[true, true, true, true, true, true, true, true, true, true, true, true, false, true, false, false]) (fuel := 3) (v := .agg (stC x)) rfl (by kernel_rfl) (by kernel_rfl) (by kernel_rfl) (by kernel_rfl) (by kernel_rfl) (fun _ _ _ h => h) (by kernel_rfl) ?_ (by assumption) ?_
    · (intro wS hSw; (try dsimp only at hSw); exact exec_load_row 42 (.tmp 13) rfl gw rfl 42 (stC x) (0, 0) _ hSw Tryz.underlying42 rfl (by kernel_rfl))
    try simp only [Act.put, List.setIfInBounds_toArray, List.set_cons_zero, List.set_cons_succ]
    refine rg_next (i := 12) (l := #[true, true, true, true, true, true, true, true, true, true, true, true, true, true, false, false]) (fuel := 2) (by kernel_rfl) rfl (by kernel_rfl) (by kernel_rfl) (fun K hK => ?_)
    go_simp
    (go_at_call 13)
    refine (hstatus_any (H8.out.kp0 (Kp.refl _ _).drew)).mono ?_
    rintro e w9 ⟨rfl, b9⟩
    replace b9 : Below w8.heap.size w8 w9 := (Below.refl _ _).drew.trans (b9.mono (Nat.le_refl _))
    have H9 := Lib.hid (H8.out.keep b9)
    have G9 := Lib.hid (G8.out.below b9 G8.out.lt)
    have HB9 := Lib.hid (HB8.out.trans (b9.mono HB8.out.size))
    clear b9 H8 G8 HB8
    first | (refine hK.out _ _ ?_ (fun hHeld => ?_)) | (go_wp2_with fail; refine hK.out _ _ ?_ (fun hHeld => ?_))
    · (try dsimp only); exact G9.out
    clear hK K
    try simp only [Act.put, List.setIfInBounds_toArray, List.set_cons_zero, List.set_cons_succ]
    refine rg_take (i := 14) (d := some 67) (l := #[true, true, true, true, true, true, true, true, true, true, true, true, true, true, true, false]) (fuel := 1) (v := .bool false) rfl (by kernel_rfl) (by kernel_rfl) (by kernel_rfl) (by kernel_rfl) (by kernel_rfl) (fun _ _ _ h => h) (by kernel_rfl) ?_ (by assumption) ?_
    · (intro wS hSw; (try dsimp only at hSw); (unfold stC; go_simp))
    try simp only [Act.put, List.setIfInBounds_toArray, List.set_cons_zero, List.set_cons_succ]
    refine rg_take (i := 15) (d := some 68) (l := #[true, true, true, true, true, true, true, true, true, true, true, true, true, true, true, true]) (fuel := 0) (v := ?_) rfl (by kernel_rfl) (by kernel_rfl) (by kernel_rfl) (by kernel_rfl) (by kernel_rfl) (fun _ _ _ h => h) (by kernel_rfl) ?_ (by assumption) ?_
    rotate_left 1
    · (intro wS hSw; (try dsimp only at hSw); go_simp; try with_reducible rfl)
    try simp only [Act.put, List.setIfInBounds_toArray, List.set_cons_zero, List.set_cons_succ]
    refine wpAnyH_done (by kernel_rfl) ?_ _
    clear hHeld
    go_wp2_with fail
    refine (hstatus_any H9.out).mono ?_
    rintro e w10 ⟨rfl, b10⟩
    have H10 := Lib.hid (H9.out.keep b10)
    have HB10 := Lib.hid (HB9.out.trans (b10.mono HB9.out.size))
    clear b10 H9 HB9 G9
    unfold stC
    go_upto_region 17 with fail
    have GN := Lib.hid (Blk.new w10 42 (stC x))
    have H11 := Lib.hid (H10.out.keep ((Below.refl w10.heap.size w10).alloc (Nat.le_refl _) (.cells (stC x) 42)))
    have HB11 := Lib.hid (HB10.out.alloc HB10.out.size (.cells (stC x) 42))
    clear H10 HB10
    try unfold stC at GN H11 HB11
    generalize w10.heap.size = gn at *
    generalize World.alloc w10 _ = w11 at *
    have hgn : gn ∉ [g, b.v, b.c, b.p] := fun hy => by
      obtain ⟨T, cs, q, hT⟩ := H11.out.boxes gn hy
      rcases hT with rfl | rfl | rfl
      · exact GN.out.ne_ q (by decide) rfl
      · exact GN.out.ne_ q (by decide) rfl
      · exact GN.out.ne_ q (by decide) rfl
    go_wp2_with fail
    refine (hread_any H11.out HLIM.out off o0 o1).mono ?_
    rw [HKK.out]
    obtain ⟨v, hv⟩ : ∃ v, x.rv ⟨0, es0, p.n, p.z, q.n, q.z, s.n, s.z⟩ 4 (regI (plA off)) = v := ⟨_, rfl⟩
    obtain ⟨x2, hx2⟩ : ∃ x2, x.rd ⟨0, es0, p.n, p.z, q.n, q.z, s.n, s.z⟩ 4 (regI (plA off)) = x2 := ⟨_, rfl⟩
    rw [hv, hx2]
    clear hv hx2
    rintro e w12 ⟨rfl, y12, k12⟩
    have H12 := Lib.hid y12
    have HB12 := Lib.hid (k12.onto HB11.out HB11.out.size (fun z hz => HLO.out z hz))
    have G12 := Lib.hid (GN.out.kp k12 hgn)
    clear y12 k12 H11 HB11 GN
    go_wp2_with fail
    go_ret
    exact ⟨by simp, HB12.out⟩
  · have k2 : (k == 2) = false := by
      have : ¬ k = 2 := by omega
      simpa using this
    have k3 : (k == 3) = false := by
      have : ¬ k = 3 := by omega
      simpa using this
    have k4 : (k == 4) = false := by
      have : ¬ k = 4 := by omega
      simpa using this
    go_wp2_with fail
    refine (hwrite_any HI7.out.hp HLIM.out off u o0 o1 u0 u1).mono ?_
    rw [HKK.out]
    obtain ⟨x1, hx1⟩ : ∃ x1, x.wr k (regI (plA off)) u = x1 := ⟨_, rfl⟩
    have HX1 := Lib.hid hx1
    have HLIM1 : Hid (x1.lim 1000000) := Lib.hid (hx1 ▸ (Hp.far_mono (Hp.far_wr HFX.out k (regI (plA off)) u) (c' := 1000000) (by omega)).1)
    rw [hx1]
    clear hx1
    rintro e w8 ⟨rfl, y8, k8⟩
    have H8 := Lib.hid y8
    have HB8 := Lib.hid (HI7.out.bw1 (fun _ h => h) k8)
    have G8 := Lib.hid (GW.out.kp k8 hgw)
    clear y8 k8 GW
    have hgw8 : gw ∉ [g, b.v, b.c, b.p] := hgw
    go_wp2_with fail
    refine rg_begin (S := fun w' => Blk w' gw 42 (stC x)) 16 #[false, false, false, false, false, false, false, false, false, false, false, false, false, false, false, false] (by kernel_rfl) (by kernel_rfl) (by kernel_rfl) ?_ (fun hHeld => ?_)
    · exact G8.out
    refine rg_take (i := 0) (d := some 53) (l := #[true, false, false, false, false, false, false, false, false, false, false, false, false, false, false, false]) (fuel := 15) (v := ?_) rfl (by kernel_rfl) (by kernel_rfl) (by kernel_rfl) (by kernel_rfl) (by kernel_rfl) (fun _ _ _ h => h) (by kernel_rfl) ?_ (by assumption) ?_
    rotate_left 1
    · (intro wS hSw; (try dsimp only at hSw); go_simp; try with_reducible rfl)
    try simp only [Act.put, List.setIfInBounds_toArray, List.set_cons_zero, List.set_cons_succ]
    refine rg_take (i := 1) (d := some 54) (l := #[true, true, false, false, false, false, false, false, false, false, false, false, false, false, false, false]) (fuel := 14) (v := ?_) rfl (by kernel_rfl) (by kernel_rfl) (by kernel_rfl) (by kernel_rfl) (by kernel_rfl) (fun _ _ _ h => h) (by kernel_rfl) ?_ (by assumption) ?_
    rotate_left 1
    · (intro wS hSw; (try dsimp only at hSw); go_simp; try with_reducible rfl)
    try simp only [Act.put, List.setIfInBounds_toArray, List.set_cons_zero, List.set_cons_succ]
    refine rg_take (i := 2) (d := some 55) (l := #[true, true, true, false, false, false, false, false, false, false, false, false, false, false, false, false]) (fuel := 13) (v := ?_) rfl (by kernel_rfl) (by kernel_rfl) (by kernel_rfl) (by kernel_rfl) (by kernel_rfl) (fun _ _ _ h => h) (by kernel_rfl) ?_ (by assumption) ?_
    rotate_left 1
    · (intro wS hSw; (try dsimp only at hSw); go_simp; try with_reducible rfl)
    try simp only [Act.put, List.setIfInBounds_toArray, List.set_cons_zero, List.set_cons_succ]
    refine rg_take (i := 3) (d := some 56) (l := #[true, true, true, true, false, false, false, false, false, false, false, false, false, false, false, false]) (fuel := 12) (v := ?_) rfl (by kernel_rfl) (by kernel_rfl) (by kernel_rfl) (by kernel_rfl) (by kernel_rfl) (fun _ _ _ h => h) (by kernel_rfl) ?_ (by assumption) ?_
    rotate_left 1
    · (intro wS hSw; (try dsimp only at hSw); go_simp; try with_reducible rfl)
    try simp only [Act.put, List.setIfInBounds_toArray, List.set_cons_zero, List.set_cons_succ]
    refine rg_take (i := 4) (d := some 57) (l := #[true, true, true, true, true, false, false, false, false, false, false, false, false, false, false, false]) (fuel := 11) (v := ?_) rfl (by kernel_rfl) (by kernel_rfl) (by kernel_rfl) (by kernel_rfl) (by kernel_rfl) (fun _ _ _ h => h) (by kernel_rfl) ?_ (by assumption) ?_
    rotate_left 1
    · (intro wS hSw; (try dsimp only at hSw); go_simp; try with_reducible rfl)
    try simp only [Act.put, List.setIfInBounds_toArray, List.set_cons_zero, List.set_cons_succ]
    refine rg_take (i := 5) (d := some 58) (l := #[true, true, true, true, true, true, false, false, false, false, false, false, false, false, false, false]) (fuel := 10) (v := ?_) rfl (by kernel_rfl) (by kernel_rfl) (by kernel_rfl) (by kernel_rfl) (by kernel_rfl) (fun _ _ _ h => h) (by kernel_rfl) ?_ (by assumption) ?_
    rotate_left 1
    · (intro wS hSw; (try dsimp only at hSw); go_simp; try with_reducible rfl)
    try simp only [Act.put, List.setIfInBounds_toArray, List.set_cons_zero, List.set_cons_succ]
    refine rg_take (i := 6) (d := some 59) (l := #[true, true, true, true, true, true, true, false, false, false, false, false, false, false, false, false]) (fuel := 9) (v := ?_) rfl (by kernel_rfl) (by kernel_rfl) (by kernel_rfl) (by kernel_rfl) (by kernel_rfl) (fun _ _ _ h => h) (by kernel_rfl) ?_ (by assumption) ?_
    rotate_left 1
    · (intro wS hSw; (try dsimp only at hSw); go_simp; try with_reducible rfl)
    try simp only [Act.put, List.setIfInBounds_toArray, List.set_cons_zero, List.set_cons_succ]
    refine rg_take (i := 7) (d := some 60) (l := #[true, true, true, true, true, true, true, true, false, false, false, false, false, false, false, false]) (fuel := 8) (v := ?_) rfl (by kernel_rfl) (by kernel_rfl) (by kernel_rfl) (by kernel_rfl) (by kernel_rfl) (fun _ _ _ h => h) (by kernel_rfl) ?_ (by assumption) ?_
    rotate_left 1
    · (intro wS hSw; (try dsimp only at hSw); go_simp; try with_reducible rfl)
    try simp only [Act.put, List.setIfInBounds_toArray, List.set_cons_zero, List.set_cons_succ]
    refine rg_take (i := 8) (d := some 61) (l := #[true, true, true, true, true, true, true, true, true, false, false, false, false, false, false, false]) (fuel := 7) (v := ?_) rfl (by kernel_rfl) (by kernel_rfl) (by kernel_rfl) (by kernel_rfl) (by kernel_rfl) (fun _ _ _ h => h) (by kernel_rfl) ?_ (by assumption) ?_
    rotate_left 1
    · (intro wS hSw; (try dsimp only at hSw); go_simp; try with_reducible rfl)
    try simp only [Act.put, List.setIfInBounds_toArray, List.set_cons_zero, List.set_cons_succ]
    refine rg_take (i := 9) (d := some 62) (l := #[true, true, true, true, true, true, true, true, true, true, false, false, false, false, false, false]) (fuel := 6) (v := ?_) rfl (by kernel_rfl) (by kernel_rfl) (by kernel_rfl) (by kernel_rfl) (by kernel_rfl) (fun _ _ _ h => h) (by kernel_rfl) ?_ (by assumption) ?_
    rotate_left 1
    · (intro wS hSw; (try dsimp only at hSw); go_simp; try with_reducible rfl)
    try simp only [Act.put, List.setIfInBounds_toArray, List.set_cons_zero, List.set_cons_succ]
    refine rg_take (i := 10) (d := some 63) (l := #[true, true, true, true, true, true, true, true, true, true, true, false, false, false, false, false]) (fuel := 5) (v := ?_) rfl (by kernel_rfl) (by kernel_rfl) (by kernel_rfl) (by kernel_rfl) (by kernel_rfl) (fun _ _ _ h => h) (by kernel_rfl) ?_ (by assumption) ?_
    rotate_left 1
    · (intro wS hSw; (try dsimp only at hSw); go_simp; try with_reducible rfl)
    try simp only [Act.put, List.setIfInBounds_toArray, List.set_cons_zero, List.set_cons_succ]
    refine rg_skip (i := 11) (d := some 64) (l := #[true, true, true, true, true, true, true, true, true, true, true, true, false, false, false, false]) (fuel := 4) rfl (by kernel_rfl) (by kernel_rfl) (by kernel_rfl) (by kernel_rfl) (by kernel_rfl) (fun _ _ _ h => h) (by kernel_rfl) (by assumption) ?_
    try simp only [Act.put, List.setIfInBounds_toArray, List.set_cons_zero, List.set_cons_succ]
    refine rg_skip (i := 12) (d := some 65) (l := #[true, true, true, true, true, true, true, true, true, true, true, true, true, false, false, false]) (fuel := 3) rfl (by kernel_rfl) (by kernel_rfl) (by kernel_rfl) (by kernel_rfl) (by kernel_rfl) (fun _ _ _ h => h) (by kernel_rfl) (by assumption) ?_
    try simp only [Act.put, List.setIfInBounds_toArray, List.set_cons_zero, List.set_cons_succ]
    refine rg_skip (i := 13) (d := some 66) (l := #[true, true, true, true, true, true, true, true, true, true, true, true, true, true, false, false]) (fuel := 2) rfl (by kernel_rfl) (by kernel_rfl) (by kernel_rfl) (by kernel_rfl) (by kernel_rfl) (fun _ _ _ h => h) (by kernel_rfl) (by assumption) ?_
    try simp only [Act.put, List.setIfInBounds_toArray, List.set_cons_zero, List.set_cons_succ]
    refine rg_skip (i := 14) (d := some 67) (l := #[true, true, true, true, true, true, true, true, true, true, true, true, true, true, true, false]) (fuel := 1) rfl (by kernel_rfl) (by kernel_rfl) (by kernel_rfl) (by kernel_rfl) (by kernel_rfl) (fun _ _ _ h => h) (by kernel_rfl) (by assumption) ?_
    try simp only [Act.put, List.setIfInBounds_toArray, List.set_cons_zero, List.set_cons_succ]
    refine rg_take (i := 15) (d := some 68) (l := #[true, true, true, true, true, true, true, true, true, true, true, true, true, true, true, true]) (fuel := 0) (v := ?_) rfl (by kernel_rfl) (by kernel_rfl) (by kernel_rfl) (by kernel_rfl) (by kernel_rfl) (fun _ _ _ h => h) (by kernel_rfl) ?_ (by assumption) ?_
    rotate_left 1
    · (intro wS hSw; (try dsimp only at hSw); go_simp; try with_reducible rfl)
    try simp only [Act.put, List.setIfInBounds_toArray, List.set_cons_zero, List.set_cons_succ]
    refine wpAnyH_done (by kernel_rfl) ?_ _
    clear hHeld
    have H9 := Lib.hid (H8.out.kp0 (Kp.refl _ _).drew)
    have G9 := Lib.hid G8.out.drew_
    have HB9 := Lib.hid HB8.out.drew
    clear H8 G8 HB8
    generalize w8.drew = w9 at *
    go_wp2_with fail
    refine (hstatus_any H9.out).mono ?_
    rintro e w10 ⟨rfl, b10⟩
    have H10 := Lib.hid (H9.out.keep b10)
    have HB10 := Lib.hid (HB9.out.trans (b10.mono HB9.out.size))
    clear b10 H9 HB9 G9
    unfold stC
    go_upto_region 17 with fail
    have GN := Lib.hid (Blk.new w10 42 (stC x1))
    have H11 := Lib.hid (H10.out.keep ((Below.refl w10.heap.size w10).alloc (Nat.le_refl _) (.cells (stC x1) 42)))
    have HB11 := Lib.hid (HB10.out.alloc HB10.out.size (.cells (stC x1) 42))
    clear H10 HB10
    try unfold stC at GN H11 HB11
    generalize w10.heap.size = gn at *
    generalize World.alloc w10 _ = w11 at *
    have hgn : gn ∉ [g, b.v, b.c, b.p] := fun hy => by
      obtain ⟨T, cs, q, hT⟩ := H11.out.boxes gn hy
      rcases hT with rfl | rfl | rfl
      · exact GN.out.ne_ q (by decide) rfl
      · exact GN.out.ne_ q (by decide) rfl
      · exact GN.out.ne_ q (by decide) rfl
    go_wp2_with fail
    refine (hread_any H11.out HLIM1.out off o0 o1).mono ?_
    rw [HKK.out]
    obtain ⟨v, hv⟩ : ∃ v, x1.rv ⟨0, es0, p.n, p.z, q.n, q.z, s.n, s.z⟩ k (regI (plA off)) = v := ⟨_, rfl⟩
    obtain ⟨x2, hx2⟩ : ∃ x2, x1.rd ⟨0, es0, p.n, p.z, q.n, q.z, s.n, s.z⟩ k (regI (plA off)) = x2 := ⟨_, rfl⟩
    have hbuf : x2.buf = v := by rw [← hx2, ← hv]; exact rd_buf hk5
    have HBUF := Lib.hid hbuf
    clear hbuf
    rw [hv, hx2]
    clear hv hx2
    rintro e w12 ⟨rfl, y12, k12⟩
    have H12 := Lib.hid y12
    have HB12 := Lib.hid (k12.onto HB11.out HB11.out.size (fun z hz => HLO.out z hz))
    have G12 := Lib.hid (GN.out.kp k12 hgn)
    clear y12 k12 H11 HB11 GN
    go_wp2_with fail
    refine (hstatus_any H12.out).mono ?_
    rintro e w13 ⟨rfl, b13⟩
    have HB13 := Lib.hid (HB12.out.trans (b13.mono HB12.out.size))
    have hf : ∀ W : World, (Instr.field 42 (.agg (stC x2)) 0).run Tryz.prog W = .ok (.int .u8 v) W := fun W => by rw [fieldBuf, HBUF.out]
    have vv : (v == v) = true := by simp
    clear b13 HB12
    go_wp2_with fail
    go_ret
    exact ⟨by simp, HB13.out⟩

theorem own : ownKnob Tryz.prog.godebug = none := by kernel_rfl
theorem laidOut : laidOutB Tryz.prog = true := by kernel_rfl
set_option maxRecDepth 100000 in
theorem lifted (os : Os) (started : os.Started) (H : Type) (enc : TypeId × Value → H) :
    ReturnsInHanded {} Tryz.checked os 5 .any (Rows.hardQuietSpec.pre6 enc Tryz.prog Tryz.f5 Rows.hardQuietRow.domain false) (Rows.hardQuietSpec.post enc Tryz.prog Tryz.f5 false true false false) := by
  refine returnsInHanded_of_change (C := Tryz.checked) own started (by kernel_rfl) Tryz.func5
    (ChangeSpec.witness6 (enc := enc) (C := Tryz.checked) false ⟨#[], #[.agg #[.slice none 0 0, .slice none 0 0, .slice none 0 0], .slice none 0 0, .int .u16 0, .int .u8 0], []⟩ 8 (by kernel_rfl) (by kernel_rfl) (by kernel_rfl) (by kernel_rfl)) ?_
  intro W base args ds gs before hval0 hW _ _
  have hval : ∀ (j : Nat) t v, Tryz.f5.params[j]? = some t → args[j]? = some v → Value.okWide Tryz.prog W .any base t v := hval0
  have hW' := hW
  obtain ⟨p, q, hA0, hV, rfl, _, _⟩ := hW
  have hA : DataW.TrodAll enc Tryz.prog W 0 (fun _ => true) true Tryz.f5.params.toList args.toList ds p := hA0
  rw [Tryz.params5] at hA hval
  obtain ⟨v0, vs0, d0, ds0, p0, q0, hargs, rfl, rfl, h0, r0⟩ := trodAll_cons hA
  obtain ⟨v1, vs1, d1, ds1, p1, q1, rfl, rfl, rfl, h1, r1⟩ := trodAll_cons r0
  obtain ⟨v2, vs2, d2, ds2, p2, q2, rfl, rfl, rfl, h2, r2⟩ := trodAll_cons r1
  obtain ⟨v3, vs3, d3, ds3, p3, q3, rfl, rfl, rfl, h3, r3⟩ := trodAll_cons r2
  obtain ⟨rfl, rfl, rfl⟩ := trodAll_nil r3
  obtain rfl : args = #[v0, v1, v2, v3] := by cases args; simp_all
  obtain ⟨rfl, rfl⟩ := trodVars_none hV
  obtain ⟨p0, q0, s0, rfl, P0, Q0, S0⟩ := feeds_value Tryz.underlying24 (by kernel_rfl) (by kernel_rfl) Tryz.underlying22 Tryz.underlying22 Tryz.underlying22 Tryz.underlying5 (by kernel_rfl) (hval 0 24 v0 rfl rfl) h0
  obtain ⟨A1, n1, c1, q1, rfl, g1, m1, R1, F1, N1⟩ := slice_fk _ [.int .u8, .int .u16, .int .u8, .int .u32] Tryz.underlying26 Tryz.underlying65 (by kernel_rfl) (by kernel_rfl) rfl (by decide)
    (fun j k h => match j, h with
      | 0, h => by cases h; exact ⟨_, rfl, Tryz.underlying5⟩
      | 1, h => by cases h; exact ⟨_, rfl, Tryz.underlying58⟩
      | 2, h => by cases h; exact ⟨_, rfl, Tryz.underlying5⟩
      | 3, h => by cases h; exact ⟨_, rfl, Tryz.underlying54⟩
      | j + 4, h => by simp at h) (hval 1 26 v1 rfl rfl) h1
  obtain ⟨a2, rfl, rfl, rfl, w2⟩ := open_int Tryz.underlying58 (hval 2 58 v2 rfl rfl) h2
  obtain ⟨a3, rfl, rfl, rfl, w3⟩ := open_int Tryz.underlying5 (hval 3 5 v3 rfl rfl) h3
  clear hA0 hval0
  refine (walk p0 q0 s0 P0 Q0 S0 A1 n1 c1 q1 g1 m1 R1 F1 a2 w2 a3 w3).mono fun e W' ⟨he, hg⟩ => ?_
  subst he
  exact ⟨_, rfl, law_post rfl Tryz.underlying4 laidOut (by kernel_rfl) rfl hW' rfl hg⟩

theorem over : Rows.hardQuietRow.holds Tryz.pinned (OpenSpec.ofChange Rows.hardQuietSpec) :=
  OpenClaim.holds_of_wide 5 Tryz.f5 rfl rfl rfl rfl rfl rfl rfl ⟨rfl, rfl, rfl, rfl, rfl⟩ rfl rfl rfl rfl rfl (by kernel_rfl) Tryz.func5 (by kernel_rfl)
    (of_decide_eq_true (by kernel_rfl)) (by unfold Func.isWrapper; first | (rw [if_pos (by decide +kernel)]; kernel_rfl) | (rw [if_neg (by decide +kernel)]; exact ⟨rfl, rfl⟩))
    (fun os started H enc _ => lifted os started H enc)

theorem proved : Rows.HardQuietSaid := over
#print axioms proved
end Go.Proofs.YtcnjekballnncaaGreat.hardQuiet
