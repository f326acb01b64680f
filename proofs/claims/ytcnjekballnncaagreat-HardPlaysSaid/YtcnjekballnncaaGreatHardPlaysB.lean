/-
  For every input HardPlays returns true, and each argument reads behind the call as it read before. No conditions.
-/
import Derived.Test.YtcnjekballnncaaGreatRows
import Derived.Test.YtcnjekballnncaaGreatKH01
import Derived.Test.YtcnjekballnncaaGreatKH43
namespace Go.Proofs.YtcnjekballnncaaGreat.hardPlays
open Go.ChangeShapes Go.WideShapes Go.ChangeAt Go.RowKit
open Go.ChangeMaps (open_string)

set_option linter.unusedVariables false
set_option linter.unusedSimpArgs false
set_option maxRecDepth 100000 in
set_option maxHeartbeats 32000000 in
theorem walk {W : World} (p q s : Fz) (P : FzOk W p) (Q : FzOk W q) (S : FzOk W s) (A : Option Addr) (n c : Nat) (es : Nat → Iib) (hnc : n ≤ c) (hm : c ≤ maxLen) (RE : FRow W 3 A n (fun i => iibV .i64 .u8 (es i))) (FE : ∀ i, i < n → (Lit.int .i64 (es i).a).wf = true ∧ (Lit.int .u8 (es i).b).wf = true) (NE : A = none → n = 0 ∧ c = 0) (A2 : Option Addr) (n2 c2 : Nat) (q2 : Nat → Nat → Value) (hnc2 : n2 ≤ c2) (hm2 : c2 ≤ maxLen) (R2 : FRow W 4 A2 n2 q2) (F2 : ∀ i, i < n2 → ∀ (j : Nat) (k : FK), [FK.int .u8, .int .u16, .int .u8, .int .u32][j]? = some k → k.ok (q2 i j)) (A3 : Option Addr) (n3 c3 : Nat) (q3 : Nat → Nat → Value) (hnc3 : n3 ≤ c3) (hm3 : c3 ≤ maxLen) (R3 : FRow W 4 A3 n3 q3) (F3 : ∀ i, i < n3 → ∀ (j : Nat) (k : FK), [FK.int .u8, .int .u16, .int .u8, .int .u32][j]? = some k → k.ok (q3 i j)) :
    Calls Tryz.prog 3 #[.agg #[.slice p.A p.n p.c, .slice q.A q.n q.c, .slice s.A s.n s.c], .slice A n c, .slice A2 n2 c2, .slice A3 n3 c3] W fun e w' => e = .returned (.bool true) ∧ Below W.heap.size W w' := by
  unfold maxLen at hm hm2 hm3
  obtain ⟨P1, P2, P3, P4⟩ := P
  obtain ⟨Q1, Q2, Q3, Q4⟩ := Q
  obtain ⟨S1, S2, S3, S4⟩ := S
  unfold maxLen at P2 Q2 S2
  have HP3 := Lib.hid P3
  have HQ3 := Lib.hid Q3
  have HU3 := Lib.hid S3
  have HP4 := Lib.hid P4
  have HQ4 := Lib.hid Q4
  have HU4 := Lib.hid S4
  have HRE := Lib.hid RE
  have HFE := Lib.hid FE
  have HNE := Lib.hid NE
  have HR2 := Lib.hid R2
  have HF2 : Hid (StepsOk n2 q2) := Lib.hid F2
  have HR3 := Lib.hid R3
  have HF3 : Hid (StepsOk n3 q3) := Lib.hid F3
  clear P3 Q3 S3 P4 Q4 S4 RE FE NE R2 F2 R3 F3
  go_enter Tryz.func3, Tryz.ntmps3
  go_wp2_with fail
  have FB := Lib.hid (Blk.new W 24 #[.slice p.A p.n p.c, .slice q.A q.n q.c, .slice s.A s.n s.c])
  have HB := Lib.hid ((Below.refl W.heap.size W).alloc (Nat.le_refl _) (.cells #[.slice p.A p.n p.c, .slice q.A q.n q.c, .slice s.A s.n s.c] 24))
  generalize World.alloc W _ = w0 at *
  refine (liveH_any _).mono ?_
  rintro e w1 ⟨rfl, b1⟩
  have hsz := HB.out.size
  replace HB := Lib.hid (HB.out.trans (b1.mono hsz))
  replace FB := Lib.hid (FB.out.below b1 FB.out.lt)
  clear b1 hsz
  go_wp2_with fail
  refine (near_any (FRow.keep HR2.out HB.out) HF2.out (by omega)).mono ?_
  rintro e w' ⟨⟨b2, rfl, hs2⟩, rfl⟩
  have HS2 := Lib.hid hs2
  clear hs2
  cases b2 with
  | false =>
    go_wp2_with fail
    go_ret
    exact ⟨rfl, HB.out⟩
  | true =>
  go_wp2_with fail
  refine (near_any (FRow.keep HR3.out HB.out) HF3.out (by omega)).mono ?_
  rintro e w' ⟨⟨b3, rfl, hs3⟩, rfl⟩
  have HS3 := Lib.hid hs3
  clear hs3
  cases b3 with
  | false =>
    go_wp2_with fail
    go_ret
    exact ⟨rfl, HB.out⟩
  | true =>
  go_upto_region 5 with fail
  have k0 : w1.cell? ⟨W.heap.size, 0, none⟩ = some (.slice p.A p.n p.c) := FB.out.cell 0
  have k1 : w1.cell? ⟨W.heap.size, 1, none⟩ = some (.slice q.A q.n q.c) := FB.out.cell 1
  have k2 : w1.cell? ⟨W.heap.size, 2, none⟩ = some (.slice s.A s.n s.c) := FB.out.cell 2
  by_cases hl : 10000 < p.n ∨ 10000 < q.n ∨ 10000 < s.n
  · go_wp2_with fail
    refine (hnew_long (by omega) (by omega) (by omega) hl).mono ?_
    rintro e w2 ⟨rfl, b2⟩
    have hsz := HB.out.size
    replace HB := Lib.hid (HB.out.trans (b2.mono hsz))
    replace FB := Lib.hid (FB.out.below b2 FB.out.lt)
    clear b2 hsz
    go_upto_region 6 with fail
    have hsz := HB.out.size
    have X1 := Lib.hid (Blk.new w2 32 #[.int .i64 2, .int .i64 0])
    replace HB := Lib.hid (HB.out.alloc hsz (.cells #[.int .i64 2, .int .i64 0] 32))
    replace FB := Lib.hid (FB.out.alloc (.cells #[.int .i64 2, .int .i64 0] 32))
    clear hsz k0 k1 k2
    generalize w2.heap.size = gX1 at *
    generalize World.alloc w2 _ = w3 at *
    have k0 : w3.cell? ⟨W.heap.size, 0, none⟩ = some (.slice p.A p.n p.c) := FB.out.cell 0
    have k1 : w3.cell? ⟨W.heap.size, 1, none⟩ = some (.slice q.A q.n q.c) := FB.out.cell 1
    have k2 : w3.cell? ⟨W.heap.size, 2, none⟩ = some (.slice s.A s.n s.c) := FB.out.cell 2
    go_wp2_with fail
    refine (rhnew_long (by omega) (by omega) (by omega) hl).mono ?_
    rintro e w4 ⟨rfl, b4⟩
    have hsz := HB.out.size
    replace HB := Lib.hid (HB.out.trans (b4.mono hsz))
    replace FB := Lib.hid (FB.out.below b4 FB.out.lt)
    replace X1 := Lib.hid (X1.out.below b4 X1.out.lt)
    clear b4 hsz
    go_upto_region 7 with fail
    have hX := X1.out.lt
    have Y1 := Lib.hid (X1.out.alloc (.cells #[.int .i64 2, .int .i64 0] 32))
    clear X1 hX
    have hsz := HB.out.size
    have X2 := Lib.hid (Blk.new w4 32 #[.int .i64 2, .int .i64 0])
    replace HB := Lib.hid (HB.out.alloc hsz (.cells #[.int .i64 2, .int .i64 0] 32))
    replace FB := Lib.hid (FB.out.alloc (.cells #[.int .i64 2, .int .i64 0] 32))
    clear hsz k0 k1 k2
    generalize w4.heap.size = gX2 at *
    generalize World.alloc w4 _ = w5 at *
    have x0 : w5.cell? ⟨gX1, 0, none⟩ = some (.int .i64 2) := Y1.out.cell 0
    have x1 : w5.cell? ⟨gX1, 1, none⟩ = some (.int .i64 0) := Y1.out.cell 1
    have y0 : w5.cell? ⟨gX2, 0, none⟩ = some (.int .i64 2) := X2.out.cell 0
    have y1 : w5.cell? ⟨gX2, 1, none⟩ = some (.int .i64 0) := X2.out.cell 1
    go_wp2_with fail
    go_ret
    exact ⟨rfl, HB.out⟩
  by_cases hk : ¬ (chk es n).1 = 0
  · obtain ⟨⟨a, b⟩, hab⟩ : ∃ r, chk es n = r := ⟨_, rfl⟩
    have HAB := Lib.hid hab
    have na : (a != a) = false := by simp
    have nb : (b != b) = false := by simp
    have HNK : Hid ((chk es n).1 ≠ 0) := Lib.hid hk
    clear hab hk
    go_wp2_with fail
    refine (hnew_bad (FRow.keep HRE.out HB.out) hl (by omega) HNK.out).mono ?_
    rw [HAB.out]
    rintro e w2 ⟨rfl, b2⟩
    have hsz := HB.out.size
    replace HB := Lib.hid (HB.out.trans (b2.mono hsz))
    replace FB := Lib.hid (FB.out.below b2 FB.out.lt)
    clear b2 hsz
    go_upto_region 6 with fail
    have hsz := HB.out.size
    have X1 := Lib.hid (Blk.new w2 32 #[.int .i64 a, .int .i64 b])
    replace HB := Lib.hid (HB.out.alloc hsz (.cells #[.int .i64 a, .int .i64 b] 32))
    replace FB := Lib.hid (FB.out.alloc (.cells #[.int .i64 a, .int .i64 b] 32))
    clear hsz k0 k1 k2
    generalize w2.heap.size = gX1 at *
    generalize World.alloc w2 _ = w3 at *
    have k0 : w3.cell? ⟨W.heap.size, 0, none⟩ = some (.slice p.A p.n p.c) := FB.out.cell 0
    have k1 : w3.cell? ⟨W.heap.size, 1, none⟩ = some (.slice q.A q.n q.c) := FB.out.cell 1
    have k2 : w3.cell? ⟨W.heap.size, 2, none⟩ = some (.slice s.A s.n s.c) := FB.out.cell 2
    go_wp2_with fail
    refine (rhnew_bad (FRow.keep HRE.out HB.out) hl (by omega) HNK.out).mono ?_
    rw [HAB.out]
    rintro e w4 ⟨rfl, b4⟩
    have hsz := HB.out.size
    replace HB := Lib.hid (HB.out.trans (b4.mono hsz))
    replace FB := Lib.hid (FB.out.below b4 FB.out.lt)
    replace X1 := Lib.hid (X1.out.below b4 X1.out.lt)
    clear b4 hsz
    go_upto_region 7 with fail
    have hX := X1.out.lt
    have Y1 := Lib.hid (X1.out.alloc (.cells #[.int .i64 a, .int .i64 b] 32))
    clear X1 hX
    have hsz := HB.out.size
    have X2 := Lib.hid (Blk.new w4 32 #[.int .i64 a, .int .i64 b])
    replace HB := Lib.hid (HB.out.alloc hsz (.cells #[.int .i64 a, .int .i64 b] 32))
    replace FB := Lib.hid (FB.out.alloc (.cells #[.int .i64 a, .int .i64 b] 32))
    clear hsz k0 k1 k2
    generalize w4.heap.size = gX2 at *
    generalize World.alloc w4 _ = w5 at *
    have x0 : w5.cell? ⟨gX1, 0, none⟩ = some (.int .i64 a) := Y1.out.cell 0
    have x1 : w5.cell? ⟨gX1, 1, none⟩ = some (.int .i64 b) := Y1.out.cell 1
    have y0 : w5.cell? ⟨gX2, 0, none⟩ = some (.int .i64 a) := X2.out.cell 0
    have y1 : w5.cell? ⟨gX2, 1, none⟩ = some (.int .i64 b) := X2.out.cell 1
    go_wp2_with fail
    go_ret
    exact ⟨rfl, HB.out⟩
  replace hk := Decidable.not_not.1 hk
  obtain ⟨gq1, gq2, _⟩ := chk_zero hk
  have GD : Hid (Good n es) := Lib.hid ⟨gq1, gq2, fun j hj => (bounds_u8 (HFE.out j hj).2).1⟩
  have HK := Lib.hid hk
  clear hk gq2
  go_wp2_with fail
  refine (hnew_yes HP4.out HQ4.out HU4.out HNE.out (IRow.keep HP3.out HB.out) (IRow.keep HQ3.out HB.out) (IRow.keep HU3.out HB.out) (FRow.keep HRE.out HB.out) hl (by omega) HK.out GD.out).mono ?_
  rintro e w2 ⟨g, b, rfl, hg, h2, b2⟩
  have hW : W.heap.size ≤ w1.heap.size := HB.out.size
  have hsz := HB.out.size
  replace HB := Lib.hid (HB.out.trans (b2.mono hsz))
  replace FB := Lib.hid (FB.out.below b2 FB.out.lt)
  have H2 := Lib.hid h2
  have hgl : W.heap.size ≤ g ∧ W.heap.size ≤ b.v ∧ W.heap.size ≤ b.c ∧ W.heap.size ≤ b.p := ⟨Nat.le_trans hW hg.1, Nat.le_trans hW hg.2.1, Nat.le_trans hW hg.2.2.1, Nat.le_trans hW hg.2.2.2⟩
  clear b2 hsz h2 hg hW
  go_upto_region 6 with fail
  replace H2 := Lib.hid (H2.out.keep ((Below.refl w2.heap.size w2).alloc (Nat.le_refl _) (.cells #[.int .i64 0, .int .i64 0] 32)))
  have hsz := HB.out.size
  have X1 := Lib.hid (Blk.new w2 32 #[.int .i64 0, .int .i64 0])
  replace HB := Lib.hid (HB.out.alloc hsz (.cells #[.int .i64 0, .int .i64 0] 32))
  replace FB := Lib.hid (FB.out.alloc (.cells #[.int .i64 0, .int .i64 0] 32))
  clear hsz k0 k1 k2
  generalize w2.heap.size = gX1 at *
  generalize World.alloc w2 _ = w3 at *
  have k0 : w3.cell? ⟨W.heap.size, 0, none⟩ = some (.slice p.A p.n p.c) := FB.out.cell 0
  have k1 : w3.cell? ⟨W.heap.size, 1, none⟩ = some (.slice q.A q.n q.c) := FB.out.cell 1
  have k2 : w3.cell? ⟨W.heap.size, 2, none⟩ = some (.slice s.A s.n s.c) := FB.out.cell 2
  go_wp2_with fail
  refine (rhnew_yes (z1 := p.z) (z2 := q.z) (z3 := s.z) (FRow.keep HRE.out HB.out) hl (by omega) HK.out).mono ?_
  rintro e w4 ⟨r, J, rfl, hr, h4, b4⟩
  have hW : W.heap.size ≤ w3.heap.size := HB.out.size
  have hsz := HB.out.size
  replace HB := Lib.hid (HB.out.trans (b4.mono hsz))
  replace FB := Lib.hid (FB.out.below b4 FB.out.lt)
  replace H2 := Lib.hid (H2.out.keep b4)
  replace X1 := Lib.hid (X1.out.below b4 X1.out.lt)
  have R4 := Lib.hid h4
  have hrl : ∀ y ∈ J.all r, W.heap.size ≤ y := fun y hy => Nat.le_trans hW (hr y hy)
  clear b4 hsz h4 hr hW
  go_upto_region 7 with fail
  replace H2 := Lib.hid (H2.out.keep ((Below.refl w4.heap.size w4).alloc (Nat.le_refl _) (.cells #[.int .i64 0, .int .i64 0] 32)))
  replace R4 := Lib.hid (R4.out.keep ((Below.refl w4.heap.size w4).alloc (Nat.le_refl _) (.cells #[.int .i64 0, .int .i64 0] 32)))
  have Y1 := Lib.hid (X1.out.alloc (.cells #[.int .i64 0, .int .i64 0] 32))
  clear X1
  have hsz := HB.out.size
  have X2 := Lib.hid (Blk.new w4 32 #[.int .i64 0, .int .i64 0])
  replace HB := Lib.hid (HB.out.alloc hsz (.cells #[.int .i64 0, .int .i64 0] 32))
  replace FB := Lib.hid (FB.out.alloc (.cells #[.int .i64 0, .int .i64 0] 32))
  clear hsz k0 k1 k2
  generalize w4.heap.size = gX2 at *
  generalize World.alloc w4 _ = w5 at *
  have x0 : w5.cell? ⟨gX1, 0, none⟩ = some (.int .i64 0) := Y1.out.cell 0
  have x1 : w5.cell? ⟨gX1, 1, none⟩ = some (.int .i64 0) := Y1.out.cell 1
  have y0 : w5.cell? ⟨gX2, 0, none⟩ = some (.int .i64 0) := X2.out.cell 0
  have y1 : w5.cell? ⟨gX2, 1, none⟩ = some (.int .i64 0) := X2.out.cell 1
  have HI5 : Hid (HX W w5 g ⟨n, es, p.n, p.z, q.n, q.z, s.n, s.z⟩ b r J ⟨p.A, p.c, q.A, q.c, s.A, s.c, A, c⟩ Hp.new) := Lib.hid ⟨H2.out, R4.out, HB.out, ⟨fun y hy => by simp only [List.mem_cons, List.not_mem_nil, or_false] at hy; rcases hy with rfl | rfl | rfl | rfl <;> omega, hrl⟩⟩
  have HCC : Hid (HC W ⟨n, es, p.n, p.z, q.n, q.z, s.n, s.z⟩ ⟨p.A, p.c, q.A, q.c, s.A, s.c, A, c⟩) := Lib.hid ⟨⟨HP3.out, HQ3.out, HU3.out, HRE.out⟩, by dsimp only; omega⟩
  go_wp2_with fail
  refine (hplay_any HI5.out HCC.out HR2.out HF2.out (HS2.out (by trivial)) Hp.new_far (by omega)).mono ?_
  rintro e w6 ⟨rfl, ⟨x, hx, hf⟩, k6⟩
  have HI6 := Lib.hid hx
  have HFX := Lib.hid hf
  clear hx hf k6 HI5 H2 R4 X2 Y1 FB HB x0 x1 y0 y1
  go_wp2_with fail
  refine (hclone_page HI6.out.hp (by dsimp only; omega)).mono ?_
  rintro e w7 ⟨g2, b2, rfl, hg2, h7, h7', k7⟩
  have hW6 : W.heap.size ≤ w6.heap.size := HI6.out.bw.size
  have LT6 := Lib.hid HI6.out.lt
  have hL : ∀ z ∈ [b.v, b.c, b.p], z ∈ [g, b.v, b.c, b.p] := fun z hz => List.mem_cons_of_mem _ hz
  have HI7 : Hid (HX W w7 g ⟨n, es, p.n, p.z, q.n, q.z, s.n, s.z⟩ b r J ⟨p.A, p.c, q.A, q.c, s.A, s.c, A, c⟩ x) := Lib.hid ⟨h7', HI6.out.ref1 hL k7, HI6.out.bw1 hL k7, HI6.out.lo⟩
  have H7 := Lib.hid h7
  have hs7 : w6.heap.size ≤ w7.heap.size := k7.size
  clear h7 h7' k7 hL HI6
  go_wp2_with fail
  refine (rhcopy_any HI7.out.rh).mono ?_
  rintro e w8 ⟨r2, J2, rfl, hr2, h8, h8', b8⟩
  have HI8 := Lib.hid (HI7.out.on b8)
  have HJ8 : Hid (HX W w8 g2 ⟨n, es, p.n, p.z, q.n, q.z, s.n, s.z⟩ b2 r2 J2 ⟨p.A, p.c, q.A, q.c, s.A, s.c, A, c⟩ x) := Lib.hid ⟨H7.out.keep b8, h8, HI8.out.bw, fun y hy => by simp only [List.mem_cons, List.not_mem_nil, or_false] at hy; rcases hy with rfl | rfl | rfl | rfl <;> omega, fun y hy => by have := hr2 y hy; omega⟩
  have HDJ : Hid (∀ y ∈ hxL g b r J, y ∉ hxL g2 b2 r2 J2) := Lib.hid fun y hy hy2 => by
    have l1 := LT6.out y hy
    rcases List.mem_append.1 hy2 with h | h
    · simp only [List.mem_cons, List.not_mem_nil, or_false] at h
      rcases h with rfl | rfl | rfl | rfl <;> omega
    · have := hr2 y h; omega
  clear h8 h8' b8 hr2 hg2 hs7 HI7 H7 LT6
  obtain ⟨S, hS⟩ : ∃ S, stC x = S := ⟨_, rfl⟩
  obtain ⟨v1, hv1⟩ : ∃ v, x.now = v := ⟨_, rfl⟩
  have m1 : (v1 == v1) = true := by simp
  have HST := Lib.hid hS
  have HV1 := Lib.hid hv1
  have c7 : w8.cell? ⟨r, 7, none⟩ = some (.int .i64 v1) := hv1 ▸ HI8.out.rh.cells.2.2.2.2.2.2.2
  clear hS hv1
  go_wp2_with fail
  refine rg_begin (S := fun w' => w'.cell? ⟨r, 7, none⟩ = some (.int .i64 v1)) 21 #[false, false, false, false, false, false, false, false, false, false, false, false, false, false, false, false, false, false, false, false, false] (by kernel_rfl) (by kernel_rfl) (by kernel_rfl) ?_ (fun hHeld => ?_)
  · exact c7
  refine rg_take (i := 0) (d := some 58) (l := #[true, false, false, false, false, false, false, false, false, false, false, false, false, false, false, false, false, false, false, false, false]) (fuel := 20) (v := ?_) rfl (by kernel_rfl) (by kernel_rfl) (by kernel_rfl) (by kernel_rfl) (by kernel_rfl) (fun _ _ _ h => h) (by kernel_rfl) ?_ (by assumption) ?_
  rotate_left 1
  · (intro wS hSw; (try dsimp only at hSw); go_simp; try with_reducible rfl)
  try simp only [Act.put, List.setIfInBounds_toArray, List.set_cons_zero, List.set_cons_succ]
  refine rg_take (i := 1) (d := some 59) (l := #[true, true, false, false, false, false, false, false, false, false, false, false, false, false, false, false, false, false, false, false, false]) (fuel := 19) (v := ?_) rfl (by kernel_rfl) (by kernel_rfl) (by kernel_rfl) (by kernel_rfl) (by kernel_rfl) (fun _ _ _ h => h) (by kernel_rfl) ?_ (by assumption) ?_
  rotate_left 1
  · (intro wS hSw; (try dsimp only at hSw); go_simp; try with_reducible rfl)
  try simp only [Act.put, List.setIfInBounds_toArray, List.set_cons_zero, List.set_cons_succ]
  refine rg_take (i := 2) (d := some 60) (l := #[true, true, true, false, false, false, false, false, false, false, false, false, false, false, false, false, false, false, false, false, false]) (fuel := 18) (v := ?_) rfl (by kernel_rfl) (by kernel_rfl) (by kernel_rfl) (by kernel_rfl) (by kernel_rfl) (fun _ _ _ h => h) (by kernel_rfl) ?_ (by assumption) ?_
  rotate_left 1
  · (intro wS hSw; (try dsimp only at hSw); go_simp; try with_reducible rfl)
  try simp only [Act.put, List.setIfInBounds_toArray, List.set_cons_zero, List.set_cons_succ]
  refine rg_next (i := 3) (l := #[true, true, true, true, false, false, false, false, false, false, false, false, false, false, false, false, false, false, false, false, false]) (fuel := 17) (by kernel_rfl) rfl (by kernel_rfl) (by kernel_rfl) (fun K hK => ?_)
  go_simp
  (go_at_call 10)
  refine (hplay_any (HJ8.out.kp0 (Kp.refl _ _).drew) HCC.out HR3.out HF3.out (HS3.out (by trivial)) HFX.out (by omega)).mono ?_
  rintro e w9 ⟨rfl, ⟨x9, h9, f9⟩, k9⟩
  have HI9 := Lib.hid (HI8.out.other (((Kp.refl (hxL g2 b2 r2 J2) w8).drew).trans k9 (fun z hz => .inl hz)) HJ8.out.typed HJ8.out.loA HDJ.out)
  clear h9 f9 k9 c7 HI8 HJ8
  have c7 := HV1.out ▸ HI9.out.rh.cells.2.2.2.2.2.2.2
  first | (refine hK.out _ _ ?_ (fun hHeld => ?_)) | (go_wp2_with fail; refine hK.out _ _ ?_ (fun hHeld => ?_))
  · (try dsimp only); exact c7
  clear hK K
  try simp only [Act.put, List.setIfInBounds_toArray, List.set_cons_zero, List.set_cons_succ]
  refine rg_take (i := 4) (d := some 62) (l := #[true, true, true, true, true, false, false, false, false, false, false, false, false, false, false, false, false, false, false, false, false]) (fuel := 16) (v := ?_) rfl (by kernel_rfl) (by kernel_rfl) (by kernel_rfl) (by kernel_rfl) (by kernel_rfl) (fun _ _ _ h => h) (by kernel_rfl) ?_ (by assumption) ?_
  rotate_left 1
  · (intro wS hSw; (try dsimp only at hSw); go_simp; try with_reducible rfl)
  try simp only [Act.put, List.setIfInBounds_toArray, List.set_cons_zero, List.set_cons_succ]
  refine rg_take (i := 5) (d := some 63) (l := #[true, true, true, true, true, true, false, false, false, false, false, false, false, false, false, false, false, false, false, false, false]) (fuel := 15) (v := ?_) rfl (by kernel_rfl) (by kernel_rfl) (by kernel_rfl) (by kernel_rfl) (by kernel_rfl) (fun _ _ _ h => h) (by kernel_rfl) ?_ (by assumption) ?_
  rotate_left 1
  · (intro wS hSw; (try dsimp only at hSw); go_simp; try with_reducible rfl)
  try simp only [Act.put, List.setIfInBounds_toArray, List.set_cons_zero, List.set_cons_succ]
  refine rg_take (i := 7) (d := some 65) (l := #[true, true, true, true, true, true, false, true, false, false, false, false, false, false, false, false, false, false, false, false, false]) (fuel := 14) (v := ?_) rfl (by kernel_rfl) (by kernel_rfl) (by kernel_rfl) (by kernel_rfl) (by kernel_rfl) (fun _ _ _ h => h) (by kernel_rfl) ?_ (by assumption) ?_
  rotate_left 1
  · (intro wS hSw; (try dsimp only at hSw); go_simp; try with_reducible rfl)
  try simp only [Act.put, List.setIfInBounds_toArray, List.set_cons_zero, List.set_cons_succ]
  refine rg_next (i := 6) (l := #[true, true, true, true, true, true, true, true, false, false, false, false, false, false, false, false, false, false, false, false, false]) (fuel := 13) (by kernel_rfl) rfl (by kernel_rfl) (by kernel_rfl) (fun K hK => ?_)
  go_simp
  (go_at_call 13)
  refine (hstatus_v HI9.out.hp HST.out).mono ?_
  rintro e w10 ⟨rfl, bb⟩
  have HI10 := Lib.hid (HI9.out.on bb)
  clear bb c7 HI9
  have c7 := HV1.out ▸ HI10.out.rh.cells.2.2.2.2.2.2.2
  first | (refine hK.out _ _ ?_ (fun hHeld => ?_)) | (go_wp2_with fail; refine hK.out _ _ ?_ (fun hHeld => ?_))
  · (try dsimp only); exact c7
  clear hK K
  try simp only [Act.put, List.setIfInBounds_toArray, List.set_cons_zero, List.set_cons_succ]
  refine rg_next (i := 8) (l := #[true, true, true, true, true, true, true, true, true, false, false, false, false, false, false, false, false, false, false, false, false]) (fuel := 12) (by kernel_rfl) rfl (by kernel_rfl) (by kernel_rfl) (fun K hK => ?_)
  go_simp
  (go_at_call 14)
  refine (rhstatus_v HI10.out.rh HST.out).mono ?_
  rintro e w11 ⟨rfl, bb⟩
  have HI11 := Lib.hid (HI10.out.on bb)
  clear bb c7 HI10
  have c7 := HV1.out ▸ HI11.out.rh.cells.2.2.2.2.2.2.2
  first | (refine hK.out _ _ ?_ (fun hHeld => ?_)) | (go_wp2_with fail; refine hK.out _ _ ?_ (fun hHeld => ?_))
  · (try dsimp only); exact c7
  clear hK K
  try simp only [Act.put, List.setIfInBounds_toArray, List.set_cons_zero, List.set_cons_succ]
  refine rg_take (i := 9) (d := some 67) (l := #[true, true, true, true, true, true, true, true, true, true, false, false, false, false, false, false, false, false, false, false, false]) (fuel := 11) (v := .bool true) rfl (by kernel_rfl) (by kernel_rfl) (by kernel_rfl) (by kernel_rfl) (by kernel_rfl) (fun _ _ _ h => h) (by kernel_rfl) ?_ (by assumption) ?_
  · (intro wS hSw; (try dsimp only at hSw); (rw [← HST.out]; unfold stC; go_simp))
  try simp only [Act.put, List.setIfInBounds_toArray, List.set_cons_zero, List.set_cons_succ]
  refine rg_take (i := 10) (d := some 68) (l := #[true, true, true, true, true, true, true, true, true, true, true, false, false, false, false, false, false, false, false, false, false]) (fuel := 10) (v := ?_) rfl (by kernel_rfl) (by kernel_rfl) (by kernel_rfl) (by kernel_rfl) (by kernel_rfl) (fun _ _ _ h => h) (by kernel_rfl) ?_ (by assumption) ?_
  rotate_left 1
  · (intro wS hSw; (try dsimp only at hSw); go_simp; try with_reducible rfl)
  try simp only [Act.put, List.setIfInBounds_toArray, List.set_cons_zero, List.set_cons_succ]
  refine rg_take (i := 11) (d := some 69) (l := #[true, true, true, true, true, true, true, true, true, true, true, true, false, false, false, false, false, false, false, false, false]) (fuel := 9) (v := ?_) rfl (by kernel_rfl) (by kernel_rfl) (by kernel_rfl) (by kernel_rfl) (by kernel_rfl) (fun _ _ _ h => h) (by kernel_rfl) ?_ (by assumption) ?_
  rotate_left 1
  · (intro wS hSw; (try dsimp only at hSw); go_simp; try with_reducible rfl)
  try simp only [Act.put, List.setIfInBounds_toArray, List.set_cons_zero, List.set_cons_succ]
  refine rg_take (i := 12) (d := some 70) (l := #[true, true, true, true, true, true, true, true, true, true, true, true, true, false, false, false, false, false, false, false, false]) (fuel := 8) (v := ?_) rfl (by kernel_rfl) (by kernel_rfl) (by kernel_rfl) (by kernel_rfl) (by kernel_rfl) (fun _ _ _ h => h) (by kernel_rfl) ?_ (by assumption) ?_
  rotate_left 1
  · (intro wS hSw; (try dsimp only at hSw); go_simp; try with_reducible rfl)
  try simp only [Act.put, List.setIfInBounds_toArray, List.set_cons_zero, List.set_cons_succ]
  refine rg_take (i := 14) (d := some 72) (l := #[true, true, true, true, true, true, true, true, true, true, true, true, true, false, true, false, false, false, false, false, false]) (fuel := 7) (v := ?_) rfl (by kernel_rfl) (by kernel_rfl) (by kernel_rfl) (by kernel_rfl) (by kernel_rfl) (fun _ _ _ h => h) (by kernel_rfl) ?_ (by assumption) ?_
  rotate_left 1
  · (intro wS hSw; (try dsimp only at hSw); go_simp; try with_reducible rfl)
  try simp only [Act.put, List.setIfInBounds_toArray, List.set_cons_zero, List.set_cons_succ]
  refine rg_take (i := 15) (d := some 73) (l := #[true, true, true, true, true, true, true, true, true, true, true, true, true, false, true, true, false, false, false, false, false]) (fuel := 6) (v := ?_) rfl (by kernel_rfl) (by kernel_rfl) (by kernel_rfl) (by kernel_rfl) (by kernel_rfl) (fun _ _ _ h => h) (by kernel_rfl) ?_ (by assumption) ?_
  rotate_left 1
  · (intro wS hSw; (try dsimp only at hSw); go_simp; try with_reducible rfl)
  try simp only [Act.put, List.setIfInBounds_toArray, List.set_cons_zero, List.set_cons_succ]
  refine rg_take (i := 16) (d := some 74) (l := #[true, true, true, true, true, true, true, true, true, true, true, true, true, false, true, true, true, false, false, false, false]) (fuel := 5) (v := ?_) rfl (by kernel_rfl) (by kernel_rfl) (by kernel_rfl) (by kernel_rfl) (by kernel_rfl) (fun _ _ _ h => h) (by kernel_rfl) ?_ (by assumption) ?_
  rotate_left 1
  · (intro wS hSw; (try dsimp only at hSw); go_simp; try with_reducible rfl)
  try simp only [Act.put, List.setIfInBounds_toArray, List.set_cons_zero, List.set_cons_succ]
  refine rg_take (i := 17) (d := some 75) (l := #[true, true, true, true, true, true, true, true, true, true, true, true, true, false, true, true, true, true, false, false, false]) (fuel := 4) (v := ?_) rfl (by kernel_rfl) (by kernel_rfl) (by kernel_rfl) (by kernel_rfl) (by kernel_rfl) (fun _ _ _ h => h) (by kernel_rfl) ?_ (by assumption) ?_
  rotate_left 1
  · (intro wS hSw; (try dsimp only at hSw); go_simp; try with_reducible rfl)
  try simp only [Act.put, List.setIfInBounds_toArray, List.set_cons_zero, List.set_cons_succ]
  refine rg_next (i := 13) (l := #[true, true, true, true, true, true, true, true, true, true, true, true, true, true, true, true, true, true, false, false, false]) (fuel := 3) (by kernel_rfl) rfl (by kernel_rfl) (by kernel_rfl) (fun K hK => ?_)
  go_simp
  (go_at_call 15)
  refine (hnow_v HI11.out.hp HV1.out).mono ?_
  rintro e w' ⟨rfl, rfl⟩
  first | (refine hK.out _ _ ?_ (fun hHeld => ?_)) | (go_wp2_with fail; refine hK.out _ _ ?_ (fun hHeld => ?_))
  · (try dsimp only); exact c7
  clear hK K
  try simp only [Act.put, List.setIfInBounds_toArray, List.set_cons_zero, List.set_cons_succ]
  refine rg_take (i := 18) (d := some 76) (l := #[true, true, true, true, true, true, true, true, true, true, true, true, true, true, true, true, true, true, true, false, false]) (fuel := 2) (v := ?_) rfl (by kernel_rfl) (by kernel_rfl) (by kernel_rfl) (by kernel_rfl) (by kernel_rfl) (fun _ _ _ h => h) (by kernel_rfl) ?_ (by assumption) ?_
  rotate_left 1
  · (intro wS hSw; (try dsimp only at hSw); go_simp; try with_reducible rfl)
  try simp only [Act.put, List.setIfInBounds_toArray, List.set_cons_zero, List.set_cons_succ]
  refine rg_take (i := 19) (d := some 77) (l := #[true, true, true, true, true, true, true, true, true, true, true, true, true, true, true, true, true, true, true, true, false]) (fuel := 1) (v := ?_) rfl (by kernel_rfl) (by kernel_rfl) (by kernel_rfl) (by kernel_rfl) (by kernel_rfl) (fun _ _ _ h => h) (by kernel_rfl) ?_ (by assumption) ?_
  rotate_left 1
  · (intro wS hSw; (try dsimp only at hSw); go_simp; try with_reducible rfl)
  try simp only [Act.put, List.setIfInBounds_toArray, List.set_cons_zero, List.set_cons_succ]
  refine rg_take (i := 20) (d := some 8) (l := #[true, true, true, true, true, true, true, true, true, true, true, true, true, true, true, true, true, true, true, true, true]) (fuel := 0) (v := ?_) rfl (by kernel_rfl) (by kernel_rfl) (by kernel_rfl) (by kernel_rfl) (by kernel_rfl) (fun _ _ _ h => h) (by kernel_rfl) ?_ (by assumption) ?_
  rotate_left 1
  · (intro wS hSw; (try dsimp only at hSw); go_simp; try with_reducible rfl)
  try simp only [Act.put, List.setIfInBounds_toArray, List.set_cons_zero, List.set_cons_succ]
  refine wpAnyH_done (by kernel_rfl) ?_ _
  go_wp2_with fail
  go_ret
  exact ⟨by simp, HI11.out.bw⟩

theorem own : ownKnob Tryz.prog.godebug = none := by kernel_rfl
theorem laidOut : laidOutB Tryz.prog = true := by kernel_rfl
set_option maxRecDepth 100000 in
theorem lifted (os : Os) (started : os.Started) (H : Type) (enc : TypeId × Value → H) :
    ReturnsInHanded {} Tryz.checked os 3 .any (Rows.hardPlaysSpec.pre6 enc Tryz.prog Tryz.f3 Rows.hardPlaysRow.domain false) (Rows.hardPlaysSpec.post enc Tryz.prog Tryz.f3 false true false false) := by
  refine returnsInHanded_of_change (C := Tryz.checked) own started (by kernel_rfl) Tryz.func3
    (ChangeSpec.witness6 (enc := enc) (C := Tryz.checked) false ⟨#[], #[.agg #[.slice none 0 0, .slice none 0 0, .slice none 0 0], .slice none 0 0, .slice none 0 0, .slice none 0 0], []⟩ 8 (by kernel_rfl) (by kernel_rfl) (by kernel_rfl) (by kernel_rfl)) ?_
  intro W base args ds gs before hval0 hW _ _
  have hval : ∀ (j : Nat) t v, Tryz.f3.params[j]? = some t → args[j]? = some v → Value.okWide Tryz.prog W .any base t v := hval0
  have hW' := hW
  obtain ⟨p, q, hA0, hV, rfl, _, _⟩ := hW
  have hA : DataW.TrodAll enc Tryz.prog W 0 (fun _ => true) true Tryz.f3.params.toList args.toList ds p := hA0
  rw [Tryz.params3] at hA hval
  obtain ⟨v0, vs0, d0, ds0, p0, q0, hargs, rfl, rfl, h0, r0⟩ := trodAll_cons hA
  obtain ⟨v1, vs1, d1, ds1, p1, q1, rfl, rfl, rfl, h1, r1⟩ := trodAll_cons r0
  obtain ⟨v2, vs2, d2, ds2, p2, q2, rfl, rfl, rfl, h2, r2⟩ := trodAll_cons r1
  obtain ⟨v3, vs3, d3, ds3, p3, q3, rfl, rfl, rfl, h3, r3⟩ := trodAll_cons r2
  obtain ⟨rfl, rfl, rfl⟩ := trodAll_nil r3
  obtain rfl : args = #[v0, v1, v2, v3] := by cases args; simp_all
  obtain ⟨rfl, rfl⟩ := trodVars_none hV
  obtain ⟨p0, q0, s0, rfl, P0, Q0, S0⟩ := feeds_value Tryz.underlying24 (by kernel_rfl) (by kernel_rfl) Tryz.underlying22 Tryz.underlying22 Tryz.underlying22 Tryz.underlying5 (by kernel_rfl) (hval 0 24 v0 rfl rfl) h0
  obtain ⟨A1, n1, c1, z1, rfl, g1, m1, R1, F1, N1⟩ := slice_iib Tryz.underlying25 Tryz.underlying129 (by kernel_rfl) (by kernel_rfl) Tryz.underlying2 Tryz.underlying5 Tryz.underlying4 (hval 1 25 v1 rfl rfl) h1
  obtain ⟨A2, n2, c2, q2, rfl, g2, m2, R2, F2, N2⟩ := slice_fk _ [.int .u8, .int .u16, .int .u8, .int .u32] Tryz.underlying26 Tryz.underlying65 (by kernel_rfl) (by kernel_rfl) rfl (by decide)
    (fun j k h => match j, h with
      | 0, h => by cases h; exact ⟨_, rfl, Tryz.underlying5⟩
      | 1, h => by cases h; exact ⟨_, rfl, Tryz.underlying58⟩
      | 2, h => by cases h; exact ⟨_, rfl, Tryz.underlying5⟩
      | 3, h => by cases h; exact ⟨_, rfl, Tryz.underlying54⟩
      | j + 4, h => by simp at h) (hval 2 26 v2 rfl rfl) h2
  obtain ⟨A3, n3, c3, q3, rfl, g3, m3, R3, F3, N3⟩ := slice_fk _ [.int .u8, .int .u16, .int .u8, .int .u32] Tryz.underlying26 Tryz.underlying65 (by kernel_rfl) (by kernel_rfl) rfl (by decide)
    (fun j k h => match j, h with
      | 0, h => by cases h; exact ⟨_, rfl, Tryz.underlying5⟩
      | 1, h => by cases h; exact ⟨_, rfl, Tryz.underlying58⟩
      | 2, h => by cases h; exact ⟨_, rfl, Tryz.underlying5⟩
      | 3, h => by cases h; exact ⟨_, rfl, Tryz.underlying54⟩
      | j + 4, h => by simp at h) (hval 3 26 v3 rfl rfl) h3
  clear hA0 hval0
  refine (walk p0 q0 s0 P0 Q0 S0 A1 n1 c1 z1 g1 m1 R1 F1 N1 A2 n2 c2 q2 g2 m2 R2 F2 A3 n3 c3 q3 g3 m3 R3 F3).mono fun e W' ⟨he, hg⟩ => ?_
  subst he
  exact ⟨_, rfl, law_post rfl Tryz.underlying4 laidOut (by kernel_rfl) rfl hW' rfl hg⟩

theorem over : Rows.hardPlaysRow.holds Tryz.pinned (OpenSpec.ofChange Rows.hardPlaysSpec) :=
  OpenClaim.holds_of_wide 3 Tryz.f3 rfl rfl rfl rfl rfl rfl rfl ⟨rfl, rfl, rfl, rfl, rfl⟩ rfl rfl rfl rfl rfl (by kernel_rfl) Tryz.func3 (by kernel_rfl)
    (of_decide_eq_true (by kernel_rfl)) (by unfold Func.isWrapper; first | (rw [if_pos (by decide +kernel)]; kernel_rfl) | (rw [if_neg (by decide +kernel)]; exact ⟨rfl, rfl⟩))
    (fun os started H enc _ => lifted os started H enc)

theorem proved : Rows.HardPlaysSaid := over
#print axioms proved
end Go.Proofs.YtcnjekballnncaaGreat.hardPlays
