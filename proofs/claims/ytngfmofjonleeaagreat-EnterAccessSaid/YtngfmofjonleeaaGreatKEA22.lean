/-
  Texts of these proofs, one behind the other: Hard8, Hard6, Hard4, Hard5.
-/
import Derived.Test.YtngfmofjonleeaaGreatKEA20
import Derived.Test.YtngfmofjonleeaaGreatKEA03
import Derived.Test.YtngfmofjonleeaaGreatKEA18
import Derived.Test.YtngfmofjonleeaaGreatKEA21
namespace Go.Proofs.YtngfmofjonleeaaGreat
open Go.RowKit
set_option linter.unusedVariables false
set_option linter.unusedSimpArgs false
set_option maxRecDepth 100000
def Hp.new : Hp := ⟨Tm.new, 0, false, 0, ⟨0, false⟩, ⟨0, 0⟩, 0, 0, 0, 0⟩
theorem Hp.new_ok (d : Hd) : Hp.new.ok d := ⟨Tm.new_ok, Nat.zero_le _, ⟨by decide, by decide⟩, by decide, ⟨by decide, by decide⟩, by decide⟩
def NewHR (d : Hd) (w : World) (e : Ending) (w' : World) : Prop :=
  ∃ g b, e = .returned (.tuple #[.pointer (some ⟨g, 0, none⟩), .agg #[.int .i64 0, .int .i64 0]]) ∧ (w.heap.size ≤ g ∧ w.heap.size ≤ b.v ∧ w.heap.size ≤ b.c ∧ w.heap.size ≤ b.p) ∧ HP w' g d b Hp.new ∧ Below w.heap.size w w'
section
variable {w : World} {A1 A2 A3 A : Option Addr} {n1 c1 n2 c2 n3 c3 n c : Nat} {z1 z2 z3 : Nat → Int} {es : Nat → Iib}
set_option maxHeartbeats 16000000 in
theorem hnew_yes (N1 : A1 = none → n1 = 0 ∧ c1 = 0) (N2 : A2 = none → n2 = 0 ∧ c2 = 0) (N3 : A3 = none → n3 = 0 ∧ c3 = 0) (NE : A = none → n = 0 ∧ c = 0)
    (R1 : IRow w .u8 A1 n1 z1) (R2 : IRow w .u8 A2 n2 z2) (R3 : IRow w .u8 A3 n3 z3) (RE : ERow w A n es) (hl : ¬ (10000 < n1 ∨ 10000 < n2 ∨ 10000 < n3)) (hc : n ≤ 9223372036854775807) (hk : (chk es n).1 = 0) (hG : Good n es) :
    Calls Tryz.prog 5 #[.agg #[.slice A1 n1 c1, .slice A2 n2 c2, .slice A3 n3 c3], .slice A n c] w (NewHR ⟨n, es, n1, z1, n2, z2, n3, z3⟩ w) := by
  have hlb : longB n1 n2 n3 = false := decide_eq_false hl
  have hchk := fcheck_any (w := (w.alloc (.cells #[.slice A1 n1 c1, .slice A2 n2 c2, .slice A3 n3 c3] 36)).alloc (.cells #[.int .i64 0, .int .i64 0] 31)) A1 A2 A3 n1 n2 n3 c1 c2 c3 (by omega) (by omega) (by omega)
  rw [hlb] at hchk
  have HCHK := Lib.hid hchk
  have hb1 : Below w.heap.size w ((w.alloc (.cells #[.slice A1 n1 c1, .slice A2 n2 c2, .slice A3 n3 c3] 36)).alloc (.cells #[.int .i64 0, .int .i64 0] 31)) := ((Below.refl _ _).alloc (Nat.le_refl _) _).alloc (by simp) _
  have F0 := Lib.hid ((Blk.new w 36 #[.slice A1 n1 c1, .slice A2 n2 c2, .slice A3 n3 c3]).alloc (.cells #[.int .i64 0, .int .i64 0] 31))
  have G0 := Lib.hid (Blk.new (w.alloc (.cells #[.slice A1 n1 c1, .slice A2 n2 c2, .slice A3 n3 c3] 36)) 31 #[.int .i64 0, .int .i64 0])
  rw [World.size_alloc] at G0
  have HB := Lib.hid hb1
  have HR1 := Lib.hid R1
  have HR2 := Lib.hid R2
  have HR3 := Lib.hid R3
  have HRE := Lib.hid RE
  have HN1 := Lib.hid N1
  have HN2 := Lib.hid N2
  have HN3 := Lib.hid N3
  have HNE := Lib.hid NE
  have HK := Lib.hid hk
  have HG := Lib.hid hG
  have hn : n1 ≤ 10000 ∧ n2 ≤ 10000 ∧ n3 ≤ 10000 := by omega
  clear hlb hchk hb1 R1 R2 R3 RE N1 N2 N3 NE hk hG hl
  go_enter Tryz.func5, Tryz.ntmps5
  go_wp2_with fail
  obtain ⟨B, hBB⟩ : ∃ B, w.heap.size = B := ⟨_, rfl⟩
  have HBB := Lib.hid hBB
  rw [hBB] at F0 G0 HB
  simp only [hBB]
  clear hBB
  generalize World.alloc _ _ = w1 at *
  refine HCHK.out.mono ?_
  rintro e w2 ⟨rfl, b2⟩
  have s1 : B + 1 < w1.heap.size := G0.out.lt
  have HB2 := Lib.hid (HB.out.trans (b2.mono (by omega)))
  have F2 := Lib.hid (F0.out.below b2 F0.out.lt)
  have G2 := Lib.hid (G0.out.below b2 G0.out.lt)
  clear b2 HB F0 G0 HCHK s1
  go_wp2_with fail
  refine (lnew_yes HNE.out (FRow.keep HRE.out (by rw [HBB.out]; exact HB2.out)) hc HK.out).mono ?_
  rintro e w3 ⟨gl, rfl, hgl, ⟨_, Ae, ce, y1, y2⟩, b3⟩
  have s2 : B + 1 < w2.heap.size := G2.out.lt
  have HB3 := Lib.hid (HB2.out.trans (b3.mono (by omega)))
  have F3 := Lib.hid (F2.out.below b3 F2.out.lt)
  have G3 := Lib.hid (G2.out.below b3 G2.out.lt)
  have L3 := Lib.hid y1
  have E3 := Lib.hid y2
  have hgB : B + 1 < gl := by omega
  clear b3 y1 y2 HB2 F2 G2 s2 hgl
  go_wp2_with fail
  have F4 : Hid (Blk (w3.alloc (.cells #[.int .i64 0, .int .i64 0] 31)).drew B 36 #[.slice A1 n1 c1, .slice A2 n2 c2, .slice A3 n3 c3]) := Lib.hid ((F3.out.alloc _).drew_)
  have G4 : Hid (Blk (w3.alloc (.cells #[.int .i64 0, .int .i64 0] 31)).drew (B + 1) 31 #[.int .i64 0, .int .i64 0]) := Lib.hid ((G3.out.alloc _).drew_)
  have L4 : Hid (Blk (w3.alloc (.cells #[.int .i64 0, .int .i64 0] 31)).drew gl 73 #[.slice Ae n ce, .int .i64 0, .bool false, .bool false, .bool false, .bool false, .bool false]) := Lib.hid ((L3.out.alloc _).drew_)
  have b4 : Below w3.heap.size w3 (w3.alloc (.cells #[.int .i64 0, .int .i64 0] 31)).drew := ((Below.refl _ _).alloc (Nat.le_refl _) _).drew
  have s3 : B + 1 < w3.heap.size := G3.out.lt
  have HB4 := Lib.hid (HB3.out.trans (b4.mono (by omega)))
  have E4 := Lib.hid (E3.out.keep b4)
  have FF := F4
  have GG := G4
  have LL := L4
  have EE := E4
  have BB := HB4
  have s4 : B + 1 < (w3.alloc (.cells #[.int .i64 0, .int .i64 0] 31)).drew.heap.size := G4.out.lt
  clear F3 G3 L3 b4 s3 HB3 E3 F4 G4 L4 HB4 E4
  refine rg_begin (S := fun w' => w'.cell? ⟨B, 0, none⟩ = some (.slice A1 n1 c1) ∧ w'.cell? ⟨B, 1, none⟩ = some (.slice A2 n2 c2) ∧ w'.cell? ⟨B, 2, none⟩ = some (.slice A3 n3 c3) ∧ Blk w' gl 73 #[.slice Ae n ce, .int .i64 0, .bool false, .bool false, .bool false, .bool false, .bool false]) 32 #[false, false, false, false, false, false, false, false, false, false, false, false, false, false, false, false, false, false, false, false, false, false, false, false, false, false, false, false, false, false, false, false] (by kernel_rfl) (by kernel_rfl) (by kernel_rfl) ?_ (fun hHeld => ?_)
  · exact ⟨FF.out.cell 0, FF.out.cell 1, FF.out.cell 2, LL.out⟩
  generalize (World.alloc w3 _).drew = w5 at *
  refine rg_take (i := 3) (d := some 27) (l := #[false, false, false, true, false, false, false, false, false, false, false, false, false, false, false, false, false, false, false, false, false, false, false, false, false, false, false, false, false, false, false, false]) (fuel := 31) (v := ?_) rfl (by kernel_rfl) (by kernel_rfl) (by kernel_rfl) (by kernel_rfl) (by kernel_rfl) (fun _ _ _ h => h) (by kernel_rfl) ?_ (by assumption) ?_
  rotate_left 1
  · (intro wS hSw; (try dsimp only at hSw); go_simp; try with_reducible rfl)
  try simp only [Act.put, List.setIfInBounds_toArray, List.set_cons_zero, List.set_cons_succ]
  refine rg_take (i := 4) (d := some 28) (l := #[false, false, false, true, true, false, false, false, false, false, false, false, false, false, false, false, false, false, false, false, false, false, false, false, false, false, false, false, false, false, false, false]) (fuel := 30) (v := ?_) rfl (by kernel_rfl) (by kernel_rfl) (by kernel_rfl) (by kernel_rfl) (by kernel_rfl) (fun _ _ _ h => h) (by kernel_rfl) ?_ (by assumption) ?_
  rotate_left 1
  · (intro wS hSw; (try dsimp only at hSw); go_simp; try with_reducible rfl)
  try simp only [Act.put, List.setIfInBounds_toArray, List.set_cons_zero, List.set_cons_succ]
  refine rg_take (i := 12) (d := some 36) (l := #[false, false, false, true, true, false, false, false, false, false, false, false, true, false, false, false, false, false, false, false, false, false, false, false, false, false, false, false, false, false, false, false]) (fuel := 29) (v := ?_) rfl (by kernel_rfl) (by kernel_rfl) (by kernel_rfl) (by kernel_rfl) (by kernel_rfl) (fun _ _ _ h => h) (by kernel_rfl) ?_ (by assumption) ?_
  rotate_left 1
  · (intro wS hSw; (try dsimp only at hSw); go_simp; try with_reducible rfl)
  try simp only [Act.put, List.setIfInBounds_toArray, List.set_cons_zero, List.set_cons_succ]
  refine rg_take (i := 13) (d := some 37) (l := #[false, false, false, true, true, false, false, false, false, false, false, false, true, true, false, false, false, false, false, false, false, false, false, false, false, false, false, false, false, false, false, false]) (fuel := 28) (v := ?_) rfl (by kernel_rfl) (by kernel_rfl) (by kernel_rfl) (by kernel_rfl) (by kernel_rfl) (fun _ _ _ h => h) (by kernel_rfl) ?_ (by assumption) ?_
  rotate_left 1
  · (intro wS hSw; (try dsimp only at hSw); go_simp; try with_reducible rfl)
  try simp only [Act.put, List.setIfInBounds_toArray, List.set_cons_zero, List.set_cons_succ]
  refine rg_take (i := 17) (d := some 41) (l := #[false, false, false, true, true, false, false, false, false, false, false, false, true, true, false, false, false, true, false, false, false, false, false, false, false, false, false, false, false, false, false, false]) (fuel := 27) (v := ?_) rfl (by kernel_rfl) (by kernel_rfl) (by kernel_rfl) (by kernel_rfl) (by kernel_rfl) (fun _ _ _ h => h) (by kernel_rfl) ?_ (by assumption) ?_
  rotate_left 1
  · (intro wS hSw; (try dsimp only at hSw); go_simp; try with_reducible rfl)
  try simp only [Act.put, List.setIfInBounds_toArray, List.set_cons_zero, List.set_cons_succ]
  refine rg_take (i := 18) (d := some 42) (l := #[false, false, false, true, true, false, false, false, false, false, false, false, true, true, false, false, false, true, true, false, false, false, false, false, false, false, false, false, false, false, false, false]) (fuel := 26) (v := ?_) rfl (by kernel_rfl) (by kernel_rfl) (by kernel_rfl) (by kernel_rfl) (by kernel_rfl) (fun _ _ _ h => h) (by kernel_rfl) ?_ (by assumption) ?_
  rotate_left 1
  · (intro wS hSw; (try dsimp only at hSw); go_simp; try with_reducible rfl)
  try simp only [Act.put, List.setIfInBounds_toArray, List.set_cons_zero, List.set_cons_succ]
  refine rg_take (i := 22) (d := some 46) (l := #[false, false, false, true, true, false, false, false, false, false, false, false, true, true, false, false, false, true, true, false, false, false, true, false, false, false, false, false, false, false, false, false]) (fuel := 25) (v := ?_) rfl (by kernel_rfl) (by kernel_rfl) (by kernel_rfl) (by kernel_rfl) (by kernel_rfl) (fun _ _ _ h => h) (by kernel_rfl) ?_ (by assumption) ?_
  rotate_left 1
  · (intro wS hSw; (try dsimp only at hSw); go_simp; try with_reducible rfl)
  try simp only [Act.put, List.setIfInBounds_toArray, List.set_cons_zero, List.set_cons_succ]
  refine rg_take (i := 23) (d := some 47) (l := #[false, false, false, true, true, false, false, false, false, false, false, false, true, true, false, false, false, true, true, false, false, false, true, true, false, false, false, false, false, false, false, false]) (fuel := 24) (v := ?_) rfl (by kernel_rfl) (by kernel_rfl) (by kernel_rfl) (by kernel_rfl) (by kernel_rfl) (fun _ _ _ h => h) (by kernel_rfl) ?_ (by assumption) ?_
  rotate_left 1
  · (intro wS hSw; (try dsimp only at hSw); go_simp; try with_reducible rfl)
  try simp only [Act.put, List.setIfInBounds_toArray, List.set_cons_zero, List.set_cons_succ]
  refine rg_take (i := 29) (d := some 53) (l := #[false, false, false, true, true, false, false, false, false, false, false, false, true, true, false, false, false, true, true, false, false, false, true, true, false, false, false, false, false, true, false, false]) (fuel := 23) (v := ?_) rfl (by kernel_rfl) (by kernel_rfl) (by kernel_rfl) (by kernel_rfl) (by kernel_rfl) (fun _ _ _ h => h) (by kernel_rfl) ?_ (by assumption) ?_
  rotate_left 1
  · (intro wS hSw; (try dsimp only at hSw); go_simp; try with_reducible rfl)
  try simp only [Act.put, List.setIfInBounds_toArray, List.set_cons_zero, List.set_cons_succ]
  refine rg_take (i := 5) (d := some 29) (l := #[false, false, false, true, true, true, false, false, false, false, false, false, true, true, false, false, false, true, true, false, false, false, true, true, false, false, false, false, false, true, false, false]) (fuel := 22) (v := .agg #[.slice Ae n ce, .int .i64 0, .bool false, .bool false, .bool false, .bool false, .bool false]) rfl (by kernel_rfl) (by kernel_rfl) (by kernel_rfl) (by kernel_rfl) (by kernel_rfl) (fun _ _ _ h => h) (by kernel_rfl) ?_ (by assumption) ?_
  · (intro wS hSw; (try dsimp only at hSw); exact exec_load_row 73 (.tmp 28) rfl gl rfl 73 #[.slice Ae n ce, .int .i64 0, .bool false, .bool false, .bool false, .bool false, .bool false] (0, 0) _ hSw.2.2.2 Tryz.underlying73 rfl (by kernel_rfl))
  try simp only [Act.put, List.setIfInBounds_toArray, List.set_cons_zero, List.set_cons_succ]
  refine rg_next (i := 0) (l := #[true, false, false, true, true, true, false, false, false, false, false, false, true, true, false, false, false, true, true, false, false, false, true, true, false, false, false, false, false, true, false, false]) (fuel := 21) (by kernel_rfl) rfl (by kernel_rfl) (by kernel_rfl) (fun K hK => ?_)
  go_simp
  (go_at_call 21)
  refine (tnew_any w5).mono ?_
  rintro e w6 ⟨rfl, y1, b6⟩
  obtain ⟨gt, hgt⟩ : ∃ gt, w5.heap.size = gt := ⟨_, rfl⟩
  have N1 : Hid (Blk w6 gt 68 #[.int .i64 0, .int .u8 0, .int .u8 0, .bool false]) := Lib.hid (hgt ▸ y1.1)
  simp only [hgt]
  have v1 : B + 1 < gt := by omega
  clear y1 hgt
  have BB' := Lib.hid (BB.out.trans (b6.mono (by omega)))
  replace FF := Lib.hid (FF.out.below b6 FF.out.lt)
  replace GG := Lib.hid (GG.out.below b6 GG.out.lt)
  replace LL := Lib.hid (LL.out.below b6 LL.out.lt)
  replace EE := Lib.hid (EE.out.keep b6)
  clear BB
  have BB := BB'
  clear BB' b6
  have s6 : gt < w6.heap.size := N1.out.lt
  clear s4
  first | (refine hK.out _ _ ?_ (fun hHeld => ?_)) | (go_wp2_with fail; refine hK.out _ _ ?_ (fun hHeld => ?_))
  · (try dsimp only); exact ⟨FF.out.cell 0, FF.out.cell 1, FF.out.cell 2, LL.out⟩
  clear hK K
  try simp only [Act.put, List.setIfInBounds_toArray, List.set_cons_zero, List.set_cons_succ]
  refine rg_take (i := 1) (d := some 25) (l := #[true, true, false, true, true, true, false, false, false, false, false, false, true, true, false, false, false, true, true, false, false, false, true, true, false, false, false, false, false, true, false, false]) (fuel := 20) (v := ?_) rfl (by kernel_rfl) (by kernel_rfl) (by kernel_rfl) (by kernel_rfl) (by kernel_rfl) (fun _ _ _ h => h) (by kernel_rfl) ?_ (by assumption) ?_
  rotate_left 1
  · (intro wS hSw; (try dsimp only at hSw); go_simp; try with_reducible rfl)
  try simp only [Act.put, List.setIfInBounds_toArray, List.set_cons_zero, List.set_cons_succ]
  refine rg_more (S' := fun w' => Blk w' gt 68 #[.int .i64 0, .int .u8 0, .int .u8 0, .bool false] ∧ w'.cell? ⟨B, 0, none⟩ = some (.slice A1 n1 c1) ∧ w'.cell? ⟨B, 1, none⟩ = some (.slice A2 n2 c2) ∧ w'.cell? ⟨B, 2, none⟩ = some (.slice A3 n3 c3) ∧ Blk w' gl 73 #[.slice Ae n ce, .int .i64 0, .bool false, .bool false, .bool false, .bool false, .bool false]) (fun w h => h.2) _ _ _ _ ?_
  clear hHeld
  have hHeld : (fun w' : World => Blk w' gt 68 #[.int .i64 0, .int .u8 0, .int .u8 0, .bool false] ∧ w'.cell? ⟨B, 0, none⟩ = some (.slice A1 n1 c1) ∧ w'.cell? ⟨B, 1, none⟩ = some (.slice A2 n2 c2) ∧ w'.cell? ⟨B, 2, none⟩ = some (.slice A3 n3 c3) ∧ Blk w' gl 73 #[.slice Ae n ce, .int .i64 0, .bool false, .bool false, .bool false, .bool false, .bool false]) _ := ⟨N1.out, FF.out.cell 0, FF.out.cell 1, FF.out.cell 2, LL.out⟩
  refine rg_take (i := 2) (d := some 26) (l := #[true, true, true, true, true, true, false, false, false, false, false, false, true, true, false, false, false, true, true, false, false, false, true, true, false, false, false, false, false, true, false, false]) (fuel := 19) (v := .agg #[.int .i64 0, .int .u8 0, .int .u8 0, .bool false]) rfl (by kernel_rfl) (by kernel_rfl) (by kernel_rfl) (by kernel_rfl) (by kernel_rfl) (fun _ _ _ h => h) (by kernel_rfl) ?_ (by assumption) ?_
  · (intro wS hSw; (try dsimp only at hSw); exact exec_load_row 68 (.tmp 25) rfl gt rfl 68 #[.int .i64 0, .int .u8 0, .int .u8 0, .bool false] (0, 0) _ hSw.1 Tryz.underlying68 rfl (by kernel_rfl))
  try simp only [Act.put, List.setIfInBounds_toArray, List.set_cons_zero, List.set_cons_succ]
  refine rg_next (i := 6) (l := #[true, true, true, true, true, true, true, false, false, false, false, false, true, true, false, false, false, true, true, false, false, false, true, true, false, false, false, false, false, true, false, false]) (fuel := 18) (by kernel_rfl) rfl (by kernel_rfl) (by kernel_rfl) (fun K hK => ?_)
  go_simp
  (go_at_call 22)
  refine (lnew_any 0 w6).mono ?_
  rintro e w7 ⟨rfl, y1⟩
  have b7 : Below w6.heap.size w6 w7 := y1 ▸ (Below.refl _ _).alloc (Nat.le_refl _) _
  obtain ⟨gb, hgb⟩ : ∃ gb, w6.heap.size = gb := ⟨_, rfl⟩
  have N3 : Hid (Blk w7 gb 75 #[.int .u8 0]) := Lib.hid (by rw [y1]; exact Blk.new_ hgb.symm)
  clear y1
  simp only [hgb]
  have v3 : B + 1 < gb := by omega
  clear hgb
  have BB' := Lib.hid (BB.out.trans (b7.mono (by omega)))
  replace FF := Lib.hid (FF.out.below b7 FF.out.lt)
  replace GG := Lib.hid (GG.out.below b7 GG.out.lt)
  replace LL := Lib.hid (LL.out.below b7 LL.out.lt)
  replace EE := Lib.hid (EE.out.keep b7)
  replace N1 := Lib.hid (N1.out.below b7 N1.out.lt)
  clear BB
  have BB := BB'
  clear BB' b7
  have s7 : gb < w7.heap.size := N3.out.lt
  clear s6
  first | (refine hK.out _ _ ?_ (fun hHeld => ?_)) | (go_wp2_with fail; refine hK.out _ _ ?_ (fun hHeld => ?_))
  · (try dsimp only); exact ⟨N1.out, FF.out.cell 0, FF.out.cell 1, FF.out.cell 2, LL.out⟩
  clear hK K
  try simp only [Act.put, List.setIfInBounds_toArray, List.set_cons_zero, List.set_cons_succ]
  refine rg_take (i := 7) (d := some 31) (l := #[true, true, true, true, true, true, true, true, false, false, false, false, true, true, false, false, false, true, true, false, false, false, true, true, false, false, false, false, false, true, false, false]) (fuel := 17) (v := ?_) rfl (by kernel_rfl) (by kernel_rfl) (by kernel_rfl) (by kernel_rfl) (by kernel_rfl) (fun _ _ _ h => h) (by kernel_rfl) ?_ (by assumption) ?_
  rotate_left 1
  · (intro wS hSw; (try dsimp only at hSw); go_simp; try with_reducible rfl)
  try simp only [Act.put, List.setIfInBounds_toArray, List.set_cons_zero, List.set_cons_succ]
  refine rg_more (S' := fun w' => Blk w' gb 75 #[.int .u8 0] ∧ Blk w' gt 68 #[.int .i64 0, .int .u8 0, .int .u8 0, .bool false] ∧ w'.cell? ⟨B, 0, none⟩ = some (.slice A1 n1 c1) ∧ w'.cell? ⟨B, 1, none⟩ = some (.slice A2 n2 c2) ∧ w'.cell? ⟨B, 2, none⟩ = some (.slice A3 n3 c3) ∧ Blk w' gl 73 #[.slice Ae n ce, .int .i64 0, .bool false, .bool false, .bool false, .bool false, .bool false]) (fun w h => h.2) _ _ _ _ ?_
  clear hHeld
  have hHeld : (fun w' : World => Blk w' gb 75 #[.int .u8 0] ∧ Blk w' gt 68 #[.int .i64 0, .int .u8 0, .int .u8 0, .bool false] ∧ w'.cell? ⟨B, 0, none⟩ = some (.slice A1 n1 c1) ∧ w'.cell? ⟨B, 1, none⟩ = some (.slice A2 n2 c2) ∧ w'.cell? ⟨B, 2, none⟩ = some (.slice A3 n3 c3) ∧ Blk w' gl 73 #[.slice Ae n ce, .int .i64 0, .bool false, .bool false, .bool false, .bool false, .bool false]) _ := ⟨N3.out, N1.out, FF.out.cell 0, FF.out.cell 1, FF.out.cell 2, LL.out⟩
  refine rg_take (i := 8) (d := some 32) (l := #[true, true, true, true, true, true, true, true, true, false, false, false, true, true, false, false, false, true, true, false, false, false, true, true, false, false, false, false, false, true, false, false]) (fuel := 16) (v := .agg #[.int .u8 0]) rfl (by kernel_rfl) (by kernel_rfl) (by kernel_rfl) (by kernel_rfl) (by kernel_rfl) (fun _ _ _ h => h) (by kernel_rfl) ?_ (by assumption) ?_
  · (intro wS hSw; (try dsimp only at hSw); exact exec_load_row 75 (.tmp 31) rfl gb rfl 75 #[.int .u8 0] (0, 0) _ hSw.1 Tryz.underlying75 rfl (by kernel_rfl))
  try simp only [Act.put, List.setIfInBounds_toArray, List.set_cons_zero, List.set_cons_succ]
  refine rg_next (i := 9) (l := #[true, true, true, true, true, true, true, true, true, true, false, false, true, true, false, false, false, true, true, false, false, false, true, true, false, false, false, false, false, true, false, false]) (fuel := 15) (by kernel_rfl) rfl (by kernel_rfl) (by kernel_rfl) (fun K hK => ?_)
  go_simp
  (go_at_call 23)
  refine (qnew_any w7).mono ?_
  rintro e w8 ⟨rfl, y1, b8⟩
  obtain ⟨gi, hgi⟩ : ∃ gi, w7.heap.size = gi := ⟨_, rfl⟩
  have N4 : Hid (Blk w8 gi 79 #[.int .u8 0, .bool false]) := Lib.hid (hgi ▸ y1.1)
  simp only [hgi]
  have v4 : B + 1 < gi := by omega
  clear y1 hgi
  have BB' := Lib.hid (BB.out.trans (b8.mono (by omega)))
  replace FF := Lib.hid (FF.out.below b8 FF.out.lt)
  replace GG := Lib.hid (GG.out.below b8 GG.out.lt)
  replace LL := Lib.hid (LL.out.below b8 LL.out.lt)
  replace EE := Lib.hid (EE.out.keep b8)
  replace N1 := Lib.hid (N1.out.below b8 N1.out.lt)
  replace N3 := Lib.hid (N3.out.below b8 N3.out.lt)
  clear BB
  have BB := BB'
  clear BB' b8
  have s8 : gi < w8.heap.size := N4.out.lt
  clear s7
  first | (refine hK.out _ _ ?_ (fun hHeld => ?_)) | (go_wp2_with fail; refine hK.out _ _ ?_ (fun hHeld => ?_))
  · (try dsimp only); exact ⟨N3.out, N1.out, FF.out.cell 0, FF.out.cell 1, FF.out.cell 2, LL.out⟩
  clear hK K
  try simp only [Act.put, List.setIfInBounds_toArray, List.set_cons_zero, List.set_cons_succ]
  refine rg_take (i := 10) (d := some 34) (l := #[true, true, true, true, true, true, true, true, true, true, true, false, true, true, false, false, false, true, true, false, false, false, true, true, false, false, false, false, false, true, false, false]) (fuel := 14) (v := ?_) rfl (by kernel_rfl) (by kernel_rfl) (by kernel_rfl) (by kernel_rfl) (by kernel_rfl) (fun _ _ _ h => h) (by kernel_rfl) ?_ (by assumption) ?_
  rotate_left 1
  · (intro wS hSw; (try dsimp only at hSw); go_simp; try with_reducible rfl)
  try simp only [Act.put, List.setIfInBounds_toArray, List.set_cons_zero, List.set_cons_succ]
  refine rg_more (S' := fun w' => Blk w' gi 79 #[.int .u8 0, .bool false] ∧ Blk w' gb 75 #[.int .u8 0] ∧ Blk w' gt 68 #[.int .i64 0, .int .u8 0, .int .u8 0, .bool false] ∧ w'.cell? ⟨B, 0, none⟩ = some (.slice A1 n1 c1) ∧ w'.cell? ⟨B, 1, none⟩ = some (.slice A2 n2 c2) ∧ w'.cell? ⟨B, 2, none⟩ = some (.slice A3 n3 c3) ∧ Blk w' gl 73 #[.slice Ae n ce, .int .i64 0, .bool false, .bool false, .bool false, .bool false, .bool false]) (fun w h => h.2) _ _ _ _ ?_
  clear hHeld
  have hHeld : (fun w' : World => Blk w' gi 79 #[.int .u8 0, .bool false] ∧ Blk w' gb 75 #[.int .u8 0] ∧ Blk w' gt 68 #[.int .i64 0, .int .u8 0, .int .u8 0, .bool false] ∧ w'.cell? ⟨B, 0, none⟩ = some (.slice A1 n1 c1) ∧ w'.cell? ⟨B, 1, none⟩ = some (.slice A2 n2 c2) ∧ w'.cell? ⟨B, 2, none⟩ = some (.slice A3 n3 c3) ∧ Blk w' gl 73 #[.slice Ae n ce, .int .i64 0, .bool false, .bool false, .bool false, .bool false, .bool false]) _ := ⟨N4.out, N3.out, N1.out, FF.out.cell 0, FF.out.cell 1, FF.out.cell 2, LL.out⟩
  refine rg_take (i := 11) (d := some 35) (l := #[true, true, true, true, true, true, true, true, true, true, true, true, true, true, false, false, false, true, true, false, false, false, true, true, false, false, false, false, false, true, false, false]) (fuel := 13) (v := .agg #[.int .u8 0, .bool false]) rfl (by kernel_rfl) (by kernel_rfl) (by kernel_rfl) (by kernel_rfl) (by kernel_rfl) (fun _ _ _ h => h) (by kernel_rfl) ?_ (by assumption) ?_
  · (intro wS hSw; (try dsimp only at hSw); exact exec_load_row 79 (.tmp 34) rfl gi rfl 79 #[.int .u8 0, .bool false] (0, 0) _ hSw.1 Tryz.underlying79 rfl (by kernel_rfl))
  try simp only [Act.put, List.setIfInBounds_toArray, List.set_cons_zero, List.set_cons_succ]
  refine rg_next (i := 14) (l := #[true, true, true, true, true, true, true, true, true, true, true, true, true, true, true, false, false, true, true, false, false, false, true, true, false, false, false, false, false, true, false, false]) (fuel := 12) (by kernel_rfl) rfl (by kernel_rfl) (by kernel_rfl) (fun K hK => ?_)
  go_simp
  (go_at_call 24)
  refine (pnew_any A3 n3 c3 z3 HN3.out (by omega) (HR3.out.keep (by rw [HBB.out]; exact BB.out))).mono ?_
  rintro e w9 ⟨gp, bp, rfl, r1, r2, y1, b9⟩
  have N5 : Hid (Blk w9 gp 86 #[giveV bp, .int .i64 0, .int .u8 0, .int .i64 0]) := Lib.hid y1.1.1
  have M5 : Hid (Box w9 bp (n3 - 0) (fun i => z3 (0 + i))) := Lib.hid y1.1.2.2
  have v5 : B + 1 < gp ∧ B + 1 < bp := by omega
  have s9 : bp < w9.heap.size := PT.ltc y1
  clear y1
  have BB' := Lib.hid (BB.out.trans (b9.mono (by omega)))
  replace FF := Lib.hid (FF.out.below b9 FF.out.lt)
  replace GG := Lib.hid (GG.out.below b9 GG.out.lt)
  replace LL := Lib.hid (LL.out.below b9 LL.out.lt)
  replace EE := Lib.hid (EE.out.keep b9)
  replace N1 := Lib.hid (N1.out.below b9 N1.out.lt)
  replace N3 := Lib.hid (N3.out.below b9 N3.out.lt)
  replace N4 := Lib.hid (N4.out.below b9 N4.out.lt)
  clear BB
  have BB := BB'
  clear BB' b9
  clear s8 r1 r2
  first | (refine hK.out _ _ ?_ (fun hHeld => ?_)) | (go_wp2_with fail; refine hK.out _ _ ?_ (fun hHeld => ?_))
  · (try dsimp only); exact ⟨N4.out, N3.out, N1.out, FF.out.cell 0, FF.out.cell 1, FF.out.cell 2, LL.out⟩
  clear hK K
  try simp only [Act.put, List.setIfInBounds_toArray, List.set_cons_zero, List.set_cons_succ]
  refine rg_take (i := 15) (d := some 39) (l := #[true, true, true, true, true, true, true, true, true, true, true, true, true, true, true, true, false, true, true, false, false, false, true, true, false, false, false, false, false, true, false, false]) (fuel := 11) (v := ?_) rfl (by kernel_rfl) (by kernel_rfl) (by kernel_rfl) (by kernel_rfl) (by kernel_rfl) (fun _ _ _ h => h) (by kernel_rfl) ?_ (by assumption) ?_
  rotate_left 1
  · (intro wS hSw; (try dsimp only at hSw); go_simp; try with_reducible rfl)
  try simp only [Act.put, List.setIfInBounds_toArray, List.set_cons_zero, List.set_cons_succ]
  refine rg_more (S' := fun w' => Blk w' gp 86 #[giveV bp, .int .i64 0, .int .u8 0, .int .i64 0] ∧ Blk w' gi 79 #[.int .u8 0, .bool false] ∧ Blk w' gb 75 #[.int .u8 0] ∧ Blk w' gt 68 #[.int .i64 0, .int .u8 0, .int .u8 0, .bool false] ∧ w'.cell? ⟨B, 0, none⟩ = some (.slice A1 n1 c1) ∧ w'.cell? ⟨B, 1, none⟩ = some (.slice A2 n2 c2) ∧ w'.cell? ⟨B, 2, none⟩ = some (.slice A3 n3 c3) ∧ Blk w' gl 73 #[.slice Ae n ce, .int .i64 0, .bool false, .bool false, .bool false, .bool false, .bool false]) (fun w h => h.2) _ _ _ _ ?_
  clear hHeld
  have hHeld : (fun w' : World => Blk w' gp 86 #[giveV bp, .int .i64 0, .int .u8 0, .int .i64 0] ∧ Blk w' gi 79 #[.int .u8 0, .bool false] ∧ Blk w' gb 75 #[.int .u8 0] ∧ Blk w' gt 68 #[.int .i64 0, .int .u8 0, .int .u8 0, .bool false] ∧ w'.cell? ⟨B, 0, none⟩ = some (.slice A1 n1 c1) ∧ w'.cell? ⟨B, 1, none⟩ = some (.slice A2 n2 c2) ∧ w'.cell? ⟨B, 2, none⟩ = some (.slice A3 n3 c3) ∧ Blk w' gl 73 #[.slice Ae n ce, .int .i64 0, .bool false, .bool false, .bool false, .bool false, .bool false]) _ := ⟨N5.out, N4.out, N3.out, N1.out, FF.out.cell 0, FF.out.cell 1, FF.out.cell 2, LL.out⟩
  refine rg_take (i := 16) (d := some 40) (l := #[true, true, true, true, true, true, true, true, true, true, true, true, true, true, true, true, true, true, true, false, false, false, true, true, false, false, false, false, false, true, false, false]) (fuel := 10) (v := .agg #[giveV bp, .int .i64 0, .int .u8 0, .int .i64 0]) rfl (by kernel_rfl) (by kernel_rfl) (by kernel_rfl) (by kernel_rfl) (by kernel_rfl) (fun _ _ _ h => h) (by kernel_rfl) ?_ (by assumption) ?_
  · (intro wS hSw; (try dsimp only at hSw); exact exec_load_row 86 (.tmp 39) rfl gp rfl 86 #[giveV bp, .int .i64 0, .int .u8 0, .int .i64 0] (0, 0) _ hSw.1 Tryz.underlying86 rfl (by kernel_rfl))
  try simp only [Act.put, List.setIfInBounds_toArray, List.set_cons_zero, List.set_cons_succ]
  refine rg_next (i := 19) (l := #[true, true, true, true, true, true, true, true, true, true, true, true, true, true, true, true, true, true, true, true, false, false, true, true, false, false, false, false, false, true, false, false]) (fuel := 9) (by kernel_rfl) rfl (by kernel_rfl) (by kernel_rfl) (fun K hK => ?_)
  go_simp
  (go_at_call 25)
  refine (new_any A1 n1 c1 z1 HN1.out (by omega) (HR1.out.keep (by rw [HBB.out]; exact BB.out))).mono ?_
  rintro e w10 ⟨gv, bv, rfl, r1, r2, r3, r4, y1, b10⟩
  have N6 : Hid (Blk w10 gv 84 #[giveV bv, .int .i64 0]) := Lib.hid y1.1
  have M6 : Hid (Box w10 bv (n1 - 0) (fun i => z1 (0 + i))) := Lib.hid (by obtain ⟨_, v, h1, h2⟩ := y1; exact ⟨v, h1, by simpa using h2⟩)
  have v6 : B + 1 < gv ∧ B + 1 < bv ∧ bp < bv := by omega
  clear y1
  have BB' := Lib.hid (BB.out.trans (b10.mono (by omega)))
  replace FF := Lib.hid (FF.out.below b10 FF.out.lt)
  replace GG := Lib.hid (GG.out.below b10 GG.out.lt)
  replace LL := Lib.hid (LL.out.below b10 LL.out.lt)
  replace EE := Lib.hid (EE.out.keep b10)
  replace N1 := Lib.hid (N1.out.below b10 N1.out.lt)
  replace N3 := Lib.hid (N3.out.below b10 N3.out.lt)
  replace N4 := Lib.hid (N4.out.below b10 N4.out.lt)
  replace N5 := Lib.hid (N5.out.below b10 N5.out.lt)
  replace M5 := Lib.hid (M5.out.kp (Kp.of_below (L := []) b10) (fun y hy => by cases hy) (by simp))
  clear BB
  have BB := BB'
  clear BB' b10
  clear s9 r1 r2 r3
  first | (refine hK.out _ _ ?_ (fun hHeld => ?_)) | (go_wp2_with fail; refine hK.out _ _ ?_ (fun hHeld => ?_))
  · (try dsimp only); exact ⟨N5.out, N4.out, N3.out, N1.out, FF.out.cell 0, FF.out.cell 1, FF.out.cell 2, LL.out⟩
  clear hK K
  try simp only [Act.put, List.setIfInBounds_toArray, List.set_cons_zero, List.set_cons_succ]
  refine rg_take (i := 20) (d := some 44) (l := #[true, true, true, true, true, true, true, true, true, true, true, true, true, true, true, true, true, true, true, true, true, false, true, true, false, false, false, false, false, true, false, false]) (fuel := 8) (v := ?_) rfl (by kernel_rfl) (by kernel_rfl) (by kernel_rfl) (by kernel_rfl) (by kernel_rfl) (fun _ _ _ h => h) (by kernel_rfl) ?_ (by assumption) ?_
  rotate_left 1
  · (intro wS hSw; (try dsimp only at hSw); go_simp; try with_reducible rfl)
  try simp only [Act.put, List.setIfInBounds_toArray, List.set_cons_zero, List.set_cons_succ]
  refine rg_more (S' := fun w' => Blk w' gv 84 #[giveV bv, .int .i64 0] ∧ Blk w' gp 86 #[giveV bp, .int .i64 0, .int .u8 0, .int .i64 0] ∧ Blk w' gi 79 #[.int .u8 0, .bool false] ∧ Blk w' gb 75 #[.int .u8 0] ∧ Blk w' gt 68 #[.int .i64 0, .int .u8 0, .int .u8 0, .bool false] ∧ w'.cell? ⟨B, 0, none⟩ = some (.slice A1 n1 c1) ∧ w'.cell? ⟨B, 1, none⟩ = some (.slice A2 n2 c2) ∧ w'.cell? ⟨B, 2, none⟩ = some (.slice A3 n3 c3) ∧ Blk w' gl 73 #[.slice Ae n ce, .int .i64 0, .bool false, .bool false, .bool false, .bool false, .bool false]) (fun w h => h.2) _ _ _ _ ?_
  clear hHeld
  have hHeld : (fun w' : World => Blk w' gv 84 #[giveV bv, .int .i64 0] ∧ Blk w' gp 86 #[giveV bp, .int .i64 0, .int .u8 0, .int .i64 0] ∧ Blk w' gi 79 #[.int .u8 0, .bool false] ∧ Blk w' gb 75 #[.int .u8 0] ∧ Blk w' gt 68 #[.int .i64 0, .int .u8 0, .int .u8 0, .bool false] ∧ w'.cell? ⟨B, 0, none⟩ = some (.slice A1 n1 c1) ∧ w'.cell? ⟨B, 1, none⟩ = some (.slice A2 n2 c2) ∧ w'.cell? ⟨B, 2, none⟩ = some (.slice A3 n3 c3) ∧ Blk w' gl 73 #[.slice Ae n ce, .int .i64 0, .bool false, .bool false, .bool false, .bool false, .bool false]) _ := ⟨N6.out, N5.out, N4.out, N3.out, N1.out, FF.out.cell 0, FF.out.cell 1, FF.out.cell 2, LL.out⟩
  refine rg_take (i := 21) (d := some 45) (l := #[true, true, true, true, true, true, true, true, true, true, true, true, true, true, true, true, true, true, true, true, true, true, true, true, false, false, false, false, false, true, false, false]) (fuel := 7) (v := .agg #[giveV bv, .int .i64 0]) rfl (by kernel_rfl) (by kernel_rfl) (by kernel_rfl) (by kernel_rfl) (by kernel_rfl) (fun _ _ _ h => h) (by kernel_rfl) ?_ (by assumption) ?_
  · (intro wS hSw; (try dsimp only at hSw); exact exec_load_row 84 (.tmp 44) rfl gv rfl 84 #[giveV bv, .int .i64 0] (0, 0) _ hSw.1 Tryz.underlying84 rfl (by kernel_rfl))
  try simp only [Act.put, List.setIfInBounds_toArray, List.set_cons_zero, List.set_cons_succ]
  refine rg_next (i := 24) (l := #[true, true, true, true, true, true, true, true, true, true, true, true, true, true, true, true, true, true, true, true, true, true, true, true, true, false, false, false, false, true, false, false]) (fuel := 6) (by kernel_rfl) rfl (by kernel_rfl) (by kernel_rfl) (fun K hK => ?_)
  go_simp
  (go_at_call 25)
  refine (new_any A2 n2 c2 z2 HN2.out (by omega) (HR2.out.keep (by rw [HBB.out]; exact BB.out))).mono ?_
  rintro e w11 ⟨gc, bc, rfl, r1, r2, r3, r5, y1, b11⟩
  have N7 : Hid (Blk w11 gc 84 #[giveV bc, .int .i64 0]) := Lib.hid y1.1
  have M7 : Hid (Box w11 bc (n2 - 0) (fun i => z2 (0 + i))) := Lib.hid (by obtain ⟨_, v, h1, h2⟩ := y1; exact ⟨v, h1, by simpa using h2⟩)
  have v7 : B + 1 < gc ∧ B + 1 < bc ∧ bv < bc ∧ bp < bc := by omega
  clear y1
  have BB' := Lib.hid (BB.out.trans (b11.mono (by omega)))
  replace FF := Lib.hid (FF.out.below b11 FF.out.lt)
  replace GG := Lib.hid (GG.out.below b11 GG.out.lt)
  replace LL := Lib.hid (LL.out.below b11 LL.out.lt)
  replace EE := Lib.hid (EE.out.keep b11)
  replace N1 := Lib.hid (N1.out.below b11 N1.out.lt)
  replace N3 := Lib.hid (N3.out.below b11 N3.out.lt)
  replace N4 := Lib.hid (N4.out.below b11 N4.out.lt)
  replace N5 := Lib.hid (N5.out.below b11 N5.out.lt)
  replace N6 := Lib.hid (N6.out.below b11 N6.out.lt)
  replace M5 := Lib.hid (M5.out.kp (Kp.of_below (L := []) b11) (fun y hy => by cases hy) (by simp))
  replace M6 := Lib.hid (M6.out.kp (Kp.of_below (L := []) b11) (fun y hy => by cases hy) (by simp))
  clear BB
  have BB := BB'
  clear BB' b11
  clear r1 r2 r3
  first | (refine hK.out _ _ ?_ (fun hHeld => ?_)) | (go_wp2_with fail; refine hK.out _ _ ?_ (fun hHeld => ?_))
  · (try dsimp only); exact ⟨N6.out, N5.out, N4.out, N3.out, N1.out, FF.out.cell 0, FF.out.cell 1, FF.out.cell 2, LL.out⟩
  clear hK K
  try simp only [Act.put, List.setIfInBounds_toArray, List.set_cons_zero, List.set_cons_succ]
  refine rg_take (i := 25) (d := some 49) (l := #[true, true, true, true, true, true, true, true, true, true, true, true, true, true, true, true, true, true, true, true, true, true, true, true, true, true, false, false, false, true, false, false]) (fuel := 5) (v := ?_) rfl (by kernel_rfl) (by kernel_rfl) (by kernel_rfl) (by kernel_rfl) (by kernel_rfl) (fun _ _ _ h => h) (by kernel_rfl) ?_ (by assumption) ?_
  rotate_left 1
  · (intro wS hSw; (try dsimp only at hSw); go_simp; try with_reducible rfl)
  try simp only [Act.put, List.setIfInBounds_toArray, List.set_cons_zero, List.set_cons_succ]
  refine rg_more (S' := fun w' => Blk w' gc 84 #[giveV bc, .int .i64 0] ∧ Blk w' gv 84 #[giveV bv, .int .i64 0] ∧ Blk w' gp 86 #[giveV bp, .int .i64 0, .int .u8 0, .int .i64 0] ∧ Blk w' gi 79 #[.int .u8 0, .bool false] ∧ Blk w' gb 75 #[.int .u8 0] ∧ Blk w' gt 68 #[.int .i64 0, .int .u8 0, .int .u8 0, .bool false] ∧ w'.cell? ⟨B, 0, none⟩ = some (.slice A1 n1 c1) ∧ w'.cell? ⟨B, 1, none⟩ = some (.slice A2 n2 c2) ∧ w'.cell? ⟨B, 2, none⟩ = some (.slice A3 n3 c3) ∧ Blk w' gl 73 #[.slice Ae n ce, .int .i64 0, .bool false, .bool false, .bool false, .bool false, .bool false]) (fun w h => h.2) _ _ _ _ ?_
  clear hHeld
  have hHeld : (fun w' : World => Blk w' gc 84 #[giveV bc, .int .i64 0] ∧ Blk w' gv 84 #[giveV bv, .int .i64 0] ∧ Blk w' gp 86 #[giveV bp, .int .i64 0, .int .u8 0, .int .i64 0] ∧ Blk w' gi 79 #[.int .u8 0, .bool false] ∧ Blk w' gb 75 #[.int .u8 0] ∧ Blk w' gt 68 #[.int .i64 0, .int .u8 0, .int .u8 0, .bool false] ∧ w'.cell? ⟨B, 0, none⟩ = some (.slice A1 n1 c1) ∧ w'.cell? ⟨B, 1, none⟩ = some (.slice A2 n2 c2) ∧ w'.cell? ⟨B, 2, none⟩ = some (.slice A3 n3 c3) ∧ Blk w' gl 73 #[.slice Ae n ce, .int .i64 0, .bool false, .bool false, .bool false, .bool false, .bool false]) _ := ⟨N7.out, N6.out, N5.out, N4.out, N3.out, N1.out, FF.out.cell 0, FF.out.cell 1, FF.out.cell 2, LL.out⟩
  refine rg_take (i := 26) (d := some 50) (l := #[true, true, true, true, true, true, true, true, true, true, true, true, true, true, true, true, true, true, true, true, true, true, true, true, true, true, true, false, false, true, false, false]) (fuel := 4) (v := .agg #[giveV bc, .int .i64 0]) rfl (by kernel_rfl) (by kernel_rfl) (by kernel_rfl) (by kernel_rfl) (by kernel_rfl) (fun _ _ _ h => h) (by kernel_rfl) ?_ (by assumption) ?_
  · (intro wS hSw; (try dsimp only at hSw); exact exec_load_row 84 (.tmp 49) rfl gc rfl 84 #[giveV bc, .int .i64 0] (0, 0) _ hSw.1 Tryz.underlying84 rfl (by kernel_rfl))
  try simp only [Act.put, List.setIfInBounds_toArray, List.set_cons_zero, List.set_cons_succ]
  refine rg_take (i := 27) (d := some 51) (l := #[true, true, true, true, true, true, true, true, true, true, true, true, true, true, true, true, true, true, true, true, true, true, true, true, true, true, true, true, false, true, false, false]) (fuel := 3) (v := ?_) rfl (by kernel_rfl) (by kernel_rfl) (by kernel_rfl) (by kernel_rfl) (by kernel_rfl) (fun _ _ _ h => h) (by kernel_rfl) ?_ (by assumption) ?_
  rotate_left 1
  · (intro wS hSw; (try dsimp only at hSw); go_simp; try with_reducible rfl)
  try simp only [Act.put, List.setIfInBounds_toArray, List.set_cons_zero, List.set_cons_succ]
  unfold giveV
  refine rg_next (i := 28) (l := #[true, true, true, true, true, true, true, true, true, true, true, true, true, true, true, true, true, true, true, true, true, true, true, true, true, true, true, true, true, true, false, false]) (fuel := 2) (by kernel_rfl) rfl (by kernel_rfl) (by kernel_rfl) (fun K hK => ?_)
  go_simp
  have b12 : Below w11.heap.size w11 (w11.alloc (.cells (hpC ⟨n, es, n1, z1, n2, z2, n3, z3⟩ ⟨bv, bc, bp⟩ Ae ce Hp.new) 92)) := (Below.refl _ _).alloc (Nat.le_refl _) _
  have N8 := Lib.hid (Blk.new w11 92 (hpC ⟨n, es, n1, z1, n2, z2, n3, z3⟩ ⟨bv, bc, bp⟩ Ae ce Hp.new))
  have O8 : Hid (HPo (w11.alloc (.cells (hpC ⟨n, es, n1, z1, n2, z2, n3, z3⟩ ⟨bv, bc, bp⟩ Ae ce Hp.new) 92)) ⟨n, es, n1, z1, n2, z2, n3, z3⟩ ⟨bv, bc, bp⟩ Ae ce Hp.new) := Lib.hid ⟨EE.out.keep b12, M6.out.kp (Kp.of_below (L := []) b12) (fun y hy => by cases hy) (by simp), M7.out.kp (Kp.of_below (L := []) b12) (fun y hy => by cases hy) (by simp), M5.out.kp (Kp.of_below (L := []) b12) (fun y hy => by cases hy) (by simp), ⟨(by dsimp only; omega), (by dsimp only; omega), (by dsimp only; omega)⟩, Hp.new_ok _, HG.out⟩
  have v8 : B + 1 < w11.heap.size := (by have := N7.out.lt; omega)
  have B8 := Lib.hid (BB.out.trans (b12.mono (by omega)))
  have F8 := Lib.hid (FF.out.below b12 FF.out.lt)
  have G8 := Lib.hid (GG.out.below b12 GG.out.lt)
  have L8 := Lib.hid (LL.out.below b12 LL.out.lt)
  clear EE M5 M6 M7 HR1 HR2 HR3 HRE
  first | (refine hK.out _ _ ?_ (fun hHeld => ?_)) | (go_wp2_with fail; refine hK.out _ _ ?_ (fun hHeld => ?_))
  · (try dsimp only); exact ⟨N7.out.below b12 N7.out.lt, N6.out.below b12 N6.out.lt, N5.out.below b12 N5.out.lt, N4.out.below b12 N4.out.lt, N3.out.below b12 N3.out.lt, N1.out.below b12 N1.out.lt, F8.out.cell 0, F8.out.cell 1, F8.out.cell 2, L8.out⟩
  clear hK K
  try simp only [Act.put, List.setIfInBounds_toArray, List.set_cons_zero, List.set_cons_succ]
  refine rg_take (i := 30) (d := some 4) (l := #[true, true, true, true, true, true, true, true, true, true, true, true, true, true, true, true, true, true, true, true, true, true, true, true, true, true, true, true, true, true, true, false]) (fuel := 1) (v := ?_) rfl (by kernel_rfl) (by kernel_rfl) (by kernel_rfl) (by kernel_rfl) (by kernel_rfl) (fun _ _ _ h => h) (by kernel_rfl) ?_ (by assumption) ?_
  rotate_left 1
  · (intro wS hSw; (try dsimp only at hSw); go_simp; try with_reducible rfl)
  try simp only [Act.put, List.setIfInBounds_toArray, List.set_cons_zero, List.set_cons_succ]
  obtain ⟨w12, hw12⟩ : ∃ w12, w11.alloc (.cells (hpC ⟨n, es, n1, z1, n2, z2, n3, z3⟩ ⟨bv, bc, bp⟩ Ae ce Hp.new) 92) = w12 := ⟨_, rfl⟩
  rw [hw12] at N8 O8 B8 F8 G8 L8 b12
  simp only [hpC, hpL, hpX, Hp.new, Tm.new, upTo, giveV] at hw12
  first | rw [hw12] | (have hw13 := hw12; dsimp only at hw13; rw [hw13]) | (show wpAnyH _ _ _ _ _ _ _ _ (w11.alloc (.cells (hpC ⟨n, es, n1, z1, n2, z2, n3, z3⟩ ⟨bv, bc, bp⟩ Ae ce Hp.new) 92)); rw [show w11.alloc (.cells (hpC ⟨n, es, n1, z1, n2, z2, n3, z3⟩ ⟨bv, bc, bp⟩ Ae ce Hp.new) 92) = w12 from hw12])
  have e0 : w12.cell? ⟨B + 1, 0, none⟩ = some (.int .i64 0) := G8.out.cell 0
  have e1 : w12.cell? ⟨B + 1, 1, none⟩ = some (.int .i64 0) := G8.out.cell 1
  have f0 := G8.out.frozen 0
  have f1 := G8.out.frozen 1
  refine rg_next (i := 31) (l := #[true, true, true, true, true, true, true, true, true, true, true, true, true, true, true, true, true, true, true, true, true, true, true, true, true, true, true, true, true, true, true, true]) (fuel := 0) (by kernel_rfl) rfl (by kernel_rfl) (by kernel_rfl) (fun K hK => ?_)
  go_simp
  skip
  first | (refine hK.out _ _ ?_ (fun hHeld => ?_)) | (go_wp2_with fail; refine hK.out _ _ ?_ (fun hHeld => ?_))
  · (try dsimp only); exact ⟨(((N7.out.below b12 N7.out.lt).far (by simp; omega) _).far (by simp; omega) _), (((N6.out.below b12 N6.out.lt).far (by simp; omega) _).far (by simp; omega) _), (((N5.out.below b12 N5.out.lt).far (by simp; omega) _).far (by simp; omega) _), (((N4.out.below b12 N4.out.lt).far (by simp; omega) _).far (by simp; omega) _), (((N3.out.below b12 N3.out.lt).far (by simp; omega) _).far (by simp; omega) _), (((N1.out.below b12 N1.out.lt).far (by simp; omega) _).far (by simp; omega) _), ((F8.out.far (by simp) _).far (by simp) _).cell 0, ((F8.out.far (by simp) _).far (by simp) _).cell 1, ((F8.out.far (by simp) _).far (by simp) _).cell 2, ((L8.out.far (by simp; omega) _).far (by simp; omega) _)⟩
  clear hK K
  try simp only [Act.put, List.setIfInBounds_toArray, List.set_cons_zero, List.set_cons_succ]
  refine wpAnyH_done (by kernel_rfl) ?_ _
  have NB := (G8.out.set_ 0 (.int .i64 0)).set_ 1 (.int .i64 0)
  have KB : Kp [B + 1] w12 ((w12.setCell ⟨B + 1, 0, none⟩ (.int .i64 0)).setCell ⟨B + 1, 1, none⟩ (.int .i64 0)) := ((Kp.refl _ _).setCell (.inl (by simp)) _).setCell (.inl (by simp)) _
  have hlg : B + 1 ≠ w11.heap.size := by omega
  have H9 : Hid (HP ((w12.setCell ⟨B + 1, 0, none⟩ (.int .i64 0)).setCell ⟨B + 1, 1, none⟩ (.int .i64 0)) w11.heap.size ⟨n, es, n1, z1, n2, z2, n3, z3⟩ ⟨bv, bc, bp⟩ Hp.new) := Lib.hid (HP.kp (L := [B + 1]) ⟨Ae, ce, N8.out, O8.out⟩ KB (fun y hy => by obtain rfl := List.mem_singleton.1 hy; exact ⟨_, _, G8.out, by decide, by decide⟩) (by simp; omega))
  have B9 := Lib.hid ((B8.out.setCell (p := ⟨B + 1, 0, none⟩) (by simp) (.int .i64 0)).setCell (p := ⟨B + 1, 1, none⟩) (by simp) (.int .i64 0))
  simp only [List.setIfInBounds_toArray, List.set_cons_zero, List.set_cons_succ] at NB
  clear hHeld e0 e1 f0 f1
  have hvv : B ≤ w11.heap.size ∧ B ≤ bv ∧ B ≤ bc ∧ B ≤ bp := by omega
  generalize World.setCell (World.setCell _ _ _) _ _ = wz at *
  have z0 : wz.cell? ⟨B + 1, 0, none⟩ = some (.int .i64 0) := NB.cell 0
  have z1' : wz.cell? ⟨B + 1, 1, none⟩ = some (.int .i64 0) := NB.cell 1
  clear NB KB
  go_wp2_with fail
  refine bodyPost_ret (v := .tuple #[.pointer (some ⟨w11.heap.size, 0, none⟩), .agg #[.int .i64 0, .int .i64 0]]) (by simp [results, Tryz.results5, go_sem, z0, z1']) rfl ?_
  exact ⟨w11.heap.size, ⟨bv, bc, bp⟩, rfl, by rw [HBB.out]; exact hvv, H9.out, by rw [HBB.out]; exact B9.out⟩
end
end Go.Proofs.YtngfmofjonleeaaGreat
namespace Go.Proofs.YtngfmofjonleeaaGreat
open Go.RowKit
set_option linter.unusedVariables false
set_option linter.unusedSimpArgs false
set_option maxRecDepth 100000
section
variable {w : World} {g : Nat} {d : Hd} {b : Hb} {x : Hp}
end
end Go.Proofs.YtngfmofjonleeaaGreat
namespace Go.Proofs.YtngfmofjonleeaaGreat
open Go.RowKit
set_option linter.unusedVariables false
set_option linter.unusedSimpArgs false
set_option maxRecDepth 100000
theorem addr_v {b o a : Int} {w : World} (b0 : 0 ≤ b) (b1 : b ≤ 255) (o0 : 0 ≤ o) (o1 : o ≤ 65535) (e : b * 8192 + o % 8192 = a) :
    Calls Tryz.prog 62 #[.int .u8 b, .int .u16 o] w fun e w' => e = .returned (.int .u32 a) ∧ w = w' := e ▸ addr_any b o w b0 b1 o0 o1
theorem where_v {a k : Int} {w : World} (a0 : 0 ≤ a) (a1 : a ≤ 4294967295) (e : whereI a = k) : Calls Tryz.prog 102 #[.int .u32 a] w fun e w' => e = .returned (.int .u8 k) ∧ Below w.heap.size w w' := e ▸ where_any a w a0 a1
theorem reg_v {a k : Int} {w : World} (a0 : 0 ≤ a) (a1 : a ≤ 4294967295) (e : regI a = k) : Calls Tryz.prog 123 #[.int .u32 a] w fun e w' => e = .returned (.int .i64 k) ∧ Below w.heap.size w w' := e ▸ reg_any a w a0 a1
/-- The address of a place of the last bank. -/
def plA (off : Int) : Int := 255 * 8192 + off % 8192
theorem plA_bd (off : Int) (h0 : 0 ≤ off) : 0 ≤ plA off ∧ plA off ≤ 4294967295 := by unfold plA; omega
/-- What is read of a register of the controller, and what the buffer has then. -/
def Hp.ri (d : Hd) (x : Hp) (r : Int) : Int :=
  if r = 2 then mixI x.buf 7 x.q.d else if r = 3 then mixI x.buf 7 (stV x.q.due (upTo d.es x.s 2) (upTo d.es x.s 3)) else x.buf
/-- What is read at a place of a kind, by its register. -/
def Hp.rv (d : Hd) (x : Hp) (k r : Int) : Int :=
  if k = 3 then peekI (d.nv - x.tv) (fun i => d.zv (x.tv + i)) 0
  else if k = 4 then peekI (d.nc - x.tc) (fun i => d.zc (x.tc + i)) 0
  else if k = 5 then x.buf
  else if k = 6 then mixI x.buf 127 x.tm.c
  else if k = 7 then mixI x.buf 255 (x.pt.val (peekI (d.np - x.tp) (fun i => d.zp (x.tp + i)) 0))
  else if k = 8 then x.ri d r
  else 255
def Hp.rd (d : Hd) (x : Hp) (k r : Int) : Hp :=
  if k = 3 then { x with tv := x.tv + 1 }
  else if k = 4 then { x with tc := x.tc + 1 }
  else if k = 6 ∨ k = 8 then { x with buf := x.rv d k r }
  else if k = 7 then { x with buf := x.rv d k r, tp := if x.pt.takes then x.tp + 1 else x.tp }
  else x
def Hp.lim (x : Hp) (n : Nat) : Prop := x.tv ≤ n ∧ x.tc ≤ n ∧ x.tp ≤ n
theorem fp_shift {w : World} {g : Nat} {T : TypeId} {cs : Array Value} {o cb n t : Nat} {z : Nat → Int} (h : FP w g T cs o cb (n - t - 1) (fun i => z (t + (1 + i))) ((t : Int) + 1)) : FP w g T cs o cb (n - (t + 1)) (fun i => z (t + 1 + i)) ((t + 1 : Nat) : Int) :=
  h.congr (by omega) (fun i _ => by rw [Nat.add_assoc]) (by omega)
theorem stV_byte : ∀ t u2 u3 : Bool, 0 ≤ stV t u2 u3 ∧ stV t u2 u3 ≤ 255 := by decide +kernel
theorem Pt.val_byte (s : Pt) (v : Int) (h0 : 0 ≤ v) (h1 : v ≤ 255) : 0 ≤ s.val v ∧ s.val v ≤ 255 := by
  unfold Pt.val
  split
  · split <;> omega
  · omega
theorem qstatus_iv {w : World} {g : Nat} {T : TypeId} {cs : Array Value} {o : Nat} {s : Iq} (h : IQ w g T cs o s) {u2 u3 : Bool} {x : Int} (e : stV s.due u2 u3 = x) :
    Calls Tryz.prog 152 #[.pointer (some ⟨g, o, none⟩), .bool u2, .bool u3] w fun e w' => e = .returned (.int .u8 x) ∧ Below w.heap.size w w' := e ▸ qstatus_any h u2 u3
section
variable {w : World} {g : Nat} {d : Hd} {b : Hb} {x : Hp}
theorem HP.pbyte (h : HP w g d b x) : 0 ≤ peekI (d.np - x.tp) (fun i => d.zp (x.tp + i)) 0 ∧ peekI (d.np - x.tp) (fun i => d.zp (x.tp + i)) 0 ≤ 255 := by
  obtain ⟨A, c, hb, ho⟩ := h
  obtain ⟨v, _, hs⟩ := ho.p
  exact peekI_byte hs 0
set_option maxHeartbeats 4000000 in
theorem hreadirq_any (h : HP w g d b x) (r : Int) :
    Calls Tryz.prog 135 #[.pointer (some ⟨g, 0, none⟩), .int .i64 r] w (HpR (.int .u8 (x.ri d r)) g d b { x with buf := x.ri d r } [g] w) := by
  have b0 := h.ok.2.2.1.1
  have b1 := h.ok.2.2.1.2
  have k7 := h.ok.2.2.2.1
  have H := Lib.hid h
  by_cases h2 : r = 2
  · subst h2
    have e : x.ri d 2 = mixI x.buf 7 x.q.d := by unfold Hp.ri; rw [if_pos rfl]
    rw [e]
    have mb := mix_byte x.buf 7 x.q.d b0 b1 (by decide) (by decide) (by omega) (by omega)
    have MB := Lib.hid mb
    clear e h mb b0 b1 k7
    go_enter Tryz.func135, Tryz.ntmps135
    go_wp2_with fail
    refine rg_begin (S := fun w' => True) 9 #[false, false, false, false, false, false, false, false, false] (by kernel_rfl) (by kernel_rfl) (by kernel_rfl) ?_ (fun hHeld => ?_)
    · exact trivial
    refine rg_take (i := 0) (d := some 8) (l := #[true, false, false, false, false, false, false, false, false]) (fuel := 8) (v := ?_) rfl (by kernel_rfl) (by kernel_rfl) (by kernel_rfl) (by kernel_rfl) (by kernel_rfl) (fun _ _ _ h => h) (by kernel_rfl) ?_ (by assumption) ?_
    rotate_left 1
    · (intro wS hSw; (try dsimp only at hSw); go_simp; try with_reducible rfl)
    try simp only [Act.put, List.setIfInBounds_toArray, List.set_cons_zero, List.set_cons_succ]
    refine rg_take (i := 1) (d := some 9) (l := #[true, true, false, false, false, false, false, false, false]) (fuel := 7) (v := ?_) rfl (by kernel_rfl) (by kernel_rfl) (by kernel_rfl) (by kernel_rfl) (by kernel_rfl) (fun _ _ _ h => h) (by kernel_rfl) ?_ (by assumption) ?_
    rotate_left 1
    · (intro wS hSw; (try dsimp only at hSw); go_simp; try with_reducible rfl)
    try simp only [Act.put, List.setIfInBounds_toArray, List.set_cons_zero, List.set_cons_succ]
    refine rg_take (i := 2) (d := some 10) (l := #[true, true, true, false, false, false, false, false, false]) (fuel := 6) (v := ?_) rfl (by kernel_rfl) (by kernel_rfl) (by kernel_rfl) (by kernel_rfl) (by kernel_rfl) (fun _ _ _ h => h) (by kernel_rfl) ?_ (by assumption) ?_
    rotate_left 1
    · (intro wS hSw; (try dsimp only at hSw); go_simp; try with_reducible rfl)
    try simp only [Act.put, List.setIfInBounds_toArray, List.set_cons_zero, List.set_cons_succ]
    refine rg_take (i := 3) (d := some 11) (l := #[true, true, true, true, false, false, false, false, false]) (fuel := 5) (v := ?_) rfl (by kernel_rfl) (by kernel_rfl) (by kernel_rfl) (by kernel_rfl) (by kernel_rfl) (fun _ _ _ h => h) (by kernel_rfl) ?_ (by assumption) ?_
    rotate_left 1
    · (intro wS hSw; (try dsimp only at hSw); go_simp; try with_reducible rfl)
    try simp only [Act.put, List.setIfInBounds_toArray, List.set_cons_zero, List.set_cons_succ]
    refine rg_take (i := 4) (d := some 12) (l := #[true, true, true, true, true, false, false, false, false]) (fuel := 4) (v := ?_) rfl (by kernel_rfl) (by kernel_rfl) (by kernel_rfl) (by kernel_rfl) (by kernel_rfl) (fun _ _ _ h => h) (by kernel_rfl) ?_ (by assumption) ?_
    rotate_left 1
    · (intro wS hSw; (try dsimp only at hSw); go_simp; try with_reducible rfl)
    try simp only [Act.put, List.setIfInBounds_toArray, List.set_cons_zero, List.set_cons_succ]
    refine rg_take (i := 5) (d := some 13) (l := #[true, true, true, true, true, true, false, false, false]) (fuel := 3) (v := ?_) rfl (by kernel_rfl) (by kernel_rfl) (by kernel_rfl) (by kernel_rfl) (by kernel_rfl) (fun _ _ _ h => h) (by kernel_rfl) ?_ (by assumption) ?_
    rotate_left 1
    · (intro wS hSw; (try dsimp only at hSw); go_simp; try with_reducible rfl)
    try simp only [Act.put, List.setIfInBounds_toArray, List.set_cons_zero, List.set_cons_succ]
    refine rg_next (i := 6) (l := #[true, true, true, true, true, true, true, false, false]) (fuel := 2) (by kernel_rfl) rfl (by kernel_rfl) (by kernel_rfl) (fun K hK => ?_)
    go_simp
    (go_at_call 151)
    obtain ⟨cs, q1, q2⟩ := (H.out.kp0 (Kp.refl _ _).drew).irq
    refine (qdisable_any q1).mono ?_
    rintro e w' ⟨rfl, rfl⟩
    clear q1 q2 cs
    first | (refine hK.out _ _ ?_ (fun hHeld => ?_)) | (go_wp2_with fail; refine hK.out _ _ ?_ (fun hHeld => ?_))
    · (try dsimp only); try exact trivial
    clear hK K
    try simp only [Act.put, List.setIfInBounds_toArray, List.set_cons_zero, List.set_cons_succ]
    refine rg_next (i := 7) (l := #[true, true, true, true, true, true, true, true, false]) (fuel := 1) (by kernel_rfl) rfl (by kernel_rfl) (by kernel_rfl) (fun K hK => ?_)
    go_simp
    (go_at_call 132)
    obtain ⟨l1, l2, l3⟩ := (H.out.kp0 (Kp.refl _ _).drew).lat
    refine (plread_any l1 l2 7 x.q.d).mono ?_
    rintro e w1 ⟨rfl, rfl⟩
    have Y := Lib.hid (l3 _ MB.out.1 MB.out.2)
    clear l1 l2 l3
    first | (refine hK.out _ _ ?_ (fun hHeld => ?_)) | (go_wp2_with fail; refine hK.out _ _ ?_ (fun hHeld => ?_))
    · (try dsimp only); try exact trivial
    clear hK K
    try simp only [Act.put, List.setIfInBounds_toArray, List.set_cons_zero, List.set_cons_succ]
    refine rg_take (i := 8) (d := some 4) (l := #[true, true, true, true, true, true, true, true, true]) (fuel := 0) (v := ?_) rfl (by kernel_rfl) (by kernel_rfl) (by kernel_rfl) (by kernel_rfl) (by kernel_rfl) (fun _ _ _ h => h) (by kernel_rfl) ?_ (by assumption) ?_
    rotate_left 1
    · (intro wS hSw; (try dsimp only at hSw); go_simp; try with_reducible rfl)
    try simp only [Act.put, List.setIfInBounds_toArray, List.set_cons_zero, List.set_cons_succ]
    refine wpAnyH_done (by kernel_rfl) ?_ _
    go_wp2_with fail
    go_ret
    exact ⟨rfl, Y.out.1, ((Kp.refl [g] w).drew).trans Y.out.2 (by simp)⟩
  · have n2 : (r == 2) = false := by simpa using h2
    by_cases h3 : r = 3
    · subst h3
      obtain ⟨u2, hu2⟩ : ∃ u, upTo d.es x.s 2 = u := ⟨_, rfl⟩
      obtain ⟨u3, hu3⟩ : ∃ u, upTo d.es x.s 3 = u := ⟨_, rfl⟩
      obtain ⟨v, hv⟩ : ∃ v, stV x.q.due u2 u3 = v := ⟨_, rfl⟩
      have e : x.ri d 3 = mixI x.buf 7 v := by unfold Hp.ri; rw [if_neg (by decide), if_pos rfl, hu2, hu3, hv]
      rw [e]
      have vb := stV_byte x.q.due u2 u3
      rw [hv] at vb
      have mb := mix_byte x.buf 7 v b0 b1 (by decide) (by decide) vb.1 vb.2
      have MB := Lib.hid mb
      have U2 := Lib.hid hu2
      have U3 := Lib.hid hu3
      have HV := Lib.hid hv
      clear e h mb b0 b1 k7 h2 n2 hu2 hu3 hv vb
      go_enter Tryz.func135, Tryz.ntmps135
      go_wp2_with fail
      refine rg_begin (S := fun w' => True) 17 #[false, false, false, false, false, false, false, false, false, false, false, false, false, false, false, false, false] (by kernel_rfl) (by kernel_rfl) (by kernel_rfl) ?_ (fun hHeld => ?_)
      · exact trivial
      refine rg_take (i := 0) (d := some 18) (l := #[true, false, false, false, false, false, false, false, false, false, false, false, false, false, false, false, false]) (fuel := 16) (v := ?_) rfl (by kernel_rfl) (by kernel_rfl) (by kernel_rfl) (by kernel_rfl) (by kernel_rfl) (fun _ _ _ h => h) (by kernel_rfl) ?_ (by assumption) ?_
      rotate_left 1
      · (intro wS hSw; (try dsimp only at hSw); go_simp; try with_reducible rfl)
      try simp only [Act.put, List.setIfInBounds_toArray, List.set_cons_zero, List.set_cons_succ]
      refine rg_take (i := 1) (d := some 19) (l := #[true, true, false, false, false, false, false, false, false, false, false, false, false, false, false, false, false]) (fuel := 15) (v := ?_) rfl (by kernel_rfl) (by kernel_rfl) (by kernel_rfl) (by kernel_rfl) (by kernel_rfl) (fun _ _ _ h => h) (by kernel_rfl) ?_ (by assumption) ?_
      rotate_left 1
      · (intro wS hSw; (try dsimp only at hSw); go_simp; try with_reducible rfl)
      try simp only [Act.put, List.setIfInBounds_toArray, List.set_cons_zero, List.set_cons_succ]
      refine rg_take (i := 2) (d := some 20) (l := #[true, true, true, false, false, false, false, false, false, false, false, false, false, false, false, false, false]) (fuel := 14) (v := ?_) rfl (by kernel_rfl) (by kernel_rfl) (by kernel_rfl) (by kernel_rfl) (by kernel_rfl) (fun _ _ _ h => h) (by kernel_rfl) ?_ (by assumption) ?_
      rotate_left 1
      · (intro wS hSw; (try dsimp only at hSw); go_simp; try with_reducible rfl)
      try simp only [Act.put, List.setIfInBounds_toArray, List.set_cons_zero, List.set_cons_succ]
      refine rg_take (i := 3) (d := some 21) (l := #[true, true, true, true, false, false, false, false, false, false, false, false, false, false, false, false, false]) (fuel := 13) (v := ?_) rfl (by kernel_rfl) (by kernel_rfl) (by kernel_rfl) (by kernel_rfl) (by kernel_rfl) (fun _ _ _ h => h) (by kernel_rfl) ?_ (by assumption) ?_
      rotate_left 1
      · (intro wS hSw; (try dsimp only at hSw); go_simp; try with_reducible rfl)
      try simp only [Act.put, List.setIfInBounds_toArray, List.set_cons_zero, List.set_cons_succ]
      refine rg_take (i := 4) (d := some 22) (l := #[true, true, true, true, true, false, false, false, false, false, false, false, false, false, false, false, false]) (fuel := 12) (v := ?_) rfl (by kernel_rfl) (by kernel_rfl) (by kernel_rfl) (by kernel_rfl) (by kernel_rfl) (fun _ _ _ h => h) (by kernel_rfl) ?_ (by assumption) ?_
      rotate_left 1
      · (intro wS hSw; (try dsimp only at hSw); go_simp; try with_reducible rfl)
      try simp only [Act.put, List.setIfInBounds_toArray, List.set_cons_zero, List.set_cons_succ]
      refine rg_take (i := 5) (d := some 23) (l := #[true, true, true, true, true, true, false, false, false, false, false, false, false, false, false, false, false]) (fuel := 11) (v := ?_) rfl (by kernel_rfl) (by kernel_rfl) (by kernel_rfl) (by kernel_rfl) (by kernel_rfl) (fun _ _ _ h => h) (by kernel_rfl) ?_ (by assumption) ?_
      rotate_left 1
      · (intro wS hSw; (try dsimp only at hSw); go_simp; try with_reducible rfl)
      try simp only [Act.put, List.setIfInBounds_toArray, List.set_cons_zero, List.set_cons_succ]
      refine rg_take (i := 6) (d := some 24) (l := #[true, true, true, true, true, true, true, false, false, false, false, false, false, false, false, false, false]) (fuel := 10) (v := ?_) rfl (by kernel_rfl) (by kernel_rfl) (by kernel_rfl) (by kernel_rfl) (by kernel_rfl) (fun _ _ _ h => h) (by kernel_rfl) ?_ (by assumption) ?_
      rotate_left 1
      · (intro wS hSw; (try dsimp only at hSw); go_simp; try with_reducible rfl)
      try simp only [Act.put, List.setIfInBounds_toArray, List.set_cons_zero, List.set_cons_succ]
      refine rg_take (i := 7) (d := some 25) (l := #[true, true, true, true, true, true, true, true, false, false, false, false, false, false, false, false, false]) (fuel := 9) (v := ?_) rfl (by kernel_rfl) (by kernel_rfl) (by kernel_rfl) (by kernel_rfl) (by kernel_rfl) (fun _ _ _ h => h) (by kernel_rfl) ?_ (by assumption) ?_
      rotate_left 1
      · (intro wS hSw; (try dsimp only at hSw); go_simp; try with_reducible rfl)
      try simp only [Act.put, List.setIfInBounds_toArray, List.set_cons_zero, List.set_cons_succ]
      refine rg_take (i := 8) (d := some 26) (l := #[true, true, true, true, true, true, true, true, true, false, false, false, false, false, false, false, false]) (fuel := 8) (v := ?_) rfl (by kernel_rfl) (by kernel_rfl) (by kernel_rfl) (by kernel_rfl) (by kernel_rfl) (fun _ _ _ h => h) (by kernel_rfl) ?_ (by assumption) ?_
      rotate_left 1
      · (intro wS hSw; (try dsimp only at hSw); go_simp; try with_reducible rfl)
      try simp only [Act.put, List.setIfInBounds_toArray, List.set_cons_zero, List.set_cons_succ]
      refine rg_take (i := 10) (d := some 28) (l := #[true, true, true, true, true, true, true, true, true, false, true, false, false, false, false, false, false]) (fuel := 7) (v := ?_) rfl (by kernel_rfl) (by kernel_rfl) (by kernel_rfl) (by kernel_rfl) (by kernel_rfl) (fun _ _ _ h => h) (by kernel_rfl) ?_ (by assumption) ?_
      rotate_left 1
      · (intro wS hSw; (try dsimp only at hSw); go_simp; try with_reducible rfl)
      try simp only [Act.put, List.setIfInBounds_toArray, List.set_cons_zero, List.set_cons_succ]
      refine rg_take (i := 11) (d := some 29) (l := #[true, true, true, true, true, true, true, true, true, false, true, true, false, false, false, false, false]) (fuel := 6) (v := ?_) rfl (by kernel_rfl) (by kernel_rfl) (by kernel_rfl) (by kernel_rfl) (by kernel_rfl) (fun _ _ _ h => h) (by kernel_rfl) ?_ (by assumption) ?_
      rotate_left 1
      · (intro wS hSw; (try dsimp only at hSw); go_simp; try with_reducible rfl)
      try simp only [Act.put, List.setIfInBounds_toArray, List.set_cons_zero, List.set_cons_succ]
      refine rg_take (i := 12) (d := some 30) (l := #[true, true, true, true, true, true, true, true, true, false, true, true, true, false, false, false, false]) (fuel := 5) (v := ?_) rfl (by kernel_rfl) (by kernel_rfl) (by kernel_rfl) (by kernel_rfl) (by kernel_rfl) (fun _ _ _ h => h) (by kernel_rfl) ?_ (by assumption) ?_
      rotate_left 1
      · (intro wS hSw; (try dsimp only at hSw); go_simp; try with_reducible rfl)
      try simp only [Act.put, List.setIfInBounds_toArray, List.set_cons_zero, List.set_cons_succ]
      refine rg_next (i := 9) (l := #[true, true, true, true, true, true, true, true, true, true, true, true, true, false, false, false, false]) (fuel := 4) (by kernel_rfl) rfl (by kernel_rfl) (by kernel_rfl) (fun K hK => ?_)
      go_simp
      (go_at_call 153)
      refine (hup_v (H.out.kp0 (Kp.refl _ _).drew).lns.1 2 (by decide) rfl U2.out).mono ?_
      rintro e w' ⟨rfl, rfl⟩
      first | (refine hK.out _ _ ?_ (fun hHeld => ?_)) | (go_wp2_with fail; refine hK.out _ _ ?_ (fun hHeld => ?_))
      · (try dsimp only); try exact trivial
      clear hK K
      try simp only [Act.put, List.setIfInBounds_toArray, List.set_cons_zero, List.set_cons_succ]
      refine rg_next (i := 13) (l := #[true, true, true, true, true, true, true, true, true, true, true, true, true, true, false, false, false]) (fuel := 3) (by kernel_rfl) rfl (by kernel_rfl) (by kernel_rfl) (fun K hK => ?_)
      go_simp
      (go_at_call 153)
      refine (hup_v (H.out.kp0 (Kp.refl _ _).drew).lns.1 3 (by decide) rfl U3.out).mono ?_
      rintro e w' ⟨rfl, rfl⟩
      first | (refine hK.out _ _ ?_ (fun hHeld => ?_)) | (go_wp2_with fail; refine hK.out _ _ ?_ (fun hHeld => ?_))
      · (try dsimp only); try exact trivial
      clear hK K
      try simp only [Act.put, List.setIfInBounds_toArray, List.set_cons_zero, List.set_cons_succ]
      refine rg_next (i := 14) (l := #[true, true, true, true, true, true, true, true, true, true, true, true, true, true, true, false, false]) (fuel := 2) (by kernel_rfl) rfl (by kernel_rfl) (by kernel_rfl) (fun K hK => ?_)
      go_simp
      (go_at_call 152)
      obtain ⟨cs, q1, q2⟩ := (H.out.kp0 (Kp.refl _ _).drew).irq
      refine (qstatus_iv q1 HV.out).mono ?_
      rintro e w1 ⟨rfl, b1⟩
      have H1 := Lib.hid ((H.out.kp0 (Kp.refl _ _).drew).keep b1)
      have K1 : Hid (Kp [g] w w1) := Lib.hid (((Kp.refl [g] w).drew).trans (Kp.of_below (L := [g]) b1) (by simp))
      clear q1 q2 cs b1 H
      first | (refine hK.out _ _ ?_ (fun hHeld => ?_)) | (go_wp2_with fail; refine hK.out _ _ ?_ (fun hHeld => ?_))
      · (try dsimp only); try exact trivial
      clear hK K
      try simp only [Act.put, List.setIfInBounds_toArray, List.set_cons_zero, List.set_cons_succ]
      refine rg_next (i := 15) (l := #[true, true, true, true, true, true, true, true, true, true, true, true, true, true, true, true, false]) (fuel := 1) (by kernel_rfl) rfl (by kernel_rfl) (by kernel_rfl) (fun K hK => ?_)
      go_simp
      (go_at_call 132)
      obtain ⟨l1, l2, l3⟩ := H1.out.lat
      refine (plread_any l1 l2 7 v).mono ?_
      rintro e w2 ⟨rfl, rfl⟩
      have Y := Lib.hid (l3 _ MB.out.1 MB.out.2)
      clear l1 l2 l3
      first | (refine hK.out _ _ ?_ (fun hHeld => ?_)) | (go_wp2_with fail; refine hK.out _ _ ?_ (fun hHeld => ?_))
      · (try dsimp only); try exact trivial
      clear hK K
      try simp only [Act.put, List.setIfInBounds_toArray, List.set_cons_zero, List.set_cons_succ]
      refine rg_take (i := 16) (d := some 4) (l := #[true, true, true, true, true, true, true, true, true, true, true, true, true, true, true, true, true]) (fuel := 0) (v := ?_) rfl (by kernel_rfl) (by kernel_rfl) (by kernel_rfl) (by kernel_rfl) (by kernel_rfl) (fun _ _ _ h => h) (by kernel_rfl) ?_ (by assumption) ?_
      rotate_left 1
      · (intro wS hSw; (try dsimp only at hSw); go_simp; try with_reducible rfl)
      try simp only [Act.put, List.setIfInBounds_toArray, List.set_cons_zero, List.set_cons_succ]
      refine wpAnyH_done (by kernel_rfl) ?_ _
      go_wp2_with fail
      go_ret
      exact ⟨rfl, Y.out.1, K1.out.trans Y.out.2 (by simp)⟩
    · have n3 : (r == 3) = false := by simpa using h3
      have e : x.ri d r = x.buf := by unfold Hp.ri; rw [if_neg h2, if_neg h3]
      rw [e]
      clear e h
      obtain ⟨l1, l2, l3⟩ := H.out.lat
      have L1 := Lib.hid l1
      clear l1 l2 l3
      go_enter Tryz.func135, Tryz.ntmps135
      go_wp2_with fail
      refine (pvalue_any L1.out).mono ?_
      rintro e w' ⟨rfl, rfl⟩
      go_wp2_with fail
      go_ret
      exact ⟨rfl, H.out, Kp.refl _ _⟩
end
end Go.Proofs.YtngfmofjonleeaaGreat
namespace Go.Proofs.YtngfmofjonleeaaGreat
open Go.RowKit
set_option linter.unusedVariables false
set_option linter.unusedSimpArgs false
set_option maxRecDepth 100000
/-- What is written at a place of a kind, at its register. -/
def Hp.wr (x : Hp) (k r u : Int) : Hp :=
  if k = 5 then { x with buf := u }
  else if k = 6 then { x with tm := x.tm.wr r u, buf := u }
  else if k = 7 then { x with pt := x.pt.wr u, buf := u }
  else if k = 8 then { x with q := x.q.wr r u, buf := u }
  else x
section
variable {w : World} {g : Nat} {d : Hd} {b : Hb} {x : Hp}
set_option maxHeartbeats 4000000 in
theorem hread3 (h : HP w g d b x) (hl : x.lim 1000000) (off : Int) (o0 : 0 ≤ off) (o1 : off ≤ 65535) (hk : whereI (plA off) = 3) :
    Calls Tryz.prog 104 #[.pointer (some ⟨g, 0, none⟩), .int .u16 off] w (HpR (.int .u8 (peekI (d.nv - x.tv) (fun i => d.zv (x.tv + i)) 0)) g d b { x with tv := x.tv + 1 } [g, b.v, b.c, b.p] w) := by
    obtain ⟨a0, a1⟩ := plA_bd off o0
    have bu0 := h.ok.2.2.1.1
    have bu1 := h.ok.2.2.1.2
    have tc0 := h.ok.1.2.1
    have H := Lib.hid h
    have HK := Lib.hid hk
    have HL := Lib.hid hl
    clear h hk hl
    go_enter Tryz.func104, Tryz.ntmps104
    go_wp2_with fail
    refine (addr_v (a := plA off) (by decide) (by decide) o0 o1 rfl).mono ?_
    rintro e w' ⟨rfl, rfl⟩
    go_wp2_with fail
    refine (where_v a0 a1 HK.out).mono ?_
    rintro e w1 ⟨rfl, b1⟩
    have H1 := Lib.hid (H.out.keep b1)
    have K1 : Hid (Kp [] w w1) := Lib.hid (Kp.of_below b1)
    clear b1 H
    go_wp2_with fail
    obtain ⟨cs, q1, q2⟩ := H1.out.fdv
    have Q2 := Lib.hid q2
    refine (fpnext_any q1 (by omega) (by have := HL.out.1; omega)).mono ?_
    rintro e w2 ⟨rfl, y1, y2⟩
    have Y := Lib.hid (Q2.out _ _ _ (fp_shift y1) y2 (by simp))
    have K2 : Hid (Kp [g, b.v, b.c, b.p] w w2) := Lib.hid ((K1.out.mono (by simp)).trans (y2.mono (M := [g, b.v, b.c, b.p]) (by simp)) (fun y hy => .inl hy))
    clear y1 y2 q1 q2 Q2 cs H1 K1
    go_wp2_with fail
    go_ret
    exact ⟨rfl, Y.out, K2.out⟩
set_option maxHeartbeats 4000000 in
theorem hread4 (h : HP w g d b x) (hl : x.lim 1000000) (off : Int) (o0 : 0 ≤ off) (o1 : off ≤ 65535) (hk : whereI (plA off) = 4) :
    Calls Tryz.prog 104 #[.pointer (some ⟨g, 0, none⟩), .int .u16 off] w (HpR (.int .u8 (peekI (d.nc - x.tc) (fun i => d.zc (x.tc + i)) 0)) g d b { x with tc := x.tc + 1 } [g, b.v, b.c, b.p] w) := by
    obtain ⟨a0, a1⟩ := plA_bd off o0
    have bu0 := h.ok.2.2.1.1
    have bu1 := h.ok.2.2.1.2
    have tc0 := h.ok.1.2.1
    have H := Lib.hid h
    have HK := Lib.hid hk
    have HL := Lib.hid hl
    clear h hk hl
    go_enter Tryz.func104, Tryz.ntmps104
    go_wp2_with fail
    refine (addr_v (a := plA off) (by decide) (by decide) o0 o1 rfl).mono ?_
    rintro e w' ⟨rfl, rfl⟩
    go_wp2_with fail
    refine (where_v a0 a1 HK.out).mono ?_
    rintro e w1 ⟨rfl, b1⟩
    have H1 := Lib.hid (H.out.keep b1)
    have K1 : Hid (Kp [] w w1) := Lib.hid (Kp.of_below b1)
    clear b1 H
    go_wp2_with fail
    obtain ⟨cs, q1, q2⟩ := H1.out.fdc
    have Q2 := Lib.hid q2
    refine (fpnext_any q1 (by omega) (by have := HL.out.2.1; omega)).mono ?_
    rintro e w2 ⟨rfl, y1, y2⟩
    have Y := Lib.hid (Q2.out _ _ _ (fp_shift y1) y2 (by simp))
    have K2 : Hid (Kp [g, b.v, b.c, b.p] w w2) := Lib.hid ((K1.out.mono (by simp)).trans (y2.mono (M := [g, b.v, b.c, b.p]) (by simp)) (fun y hy => .inl hy))
    clear y1 y2 q1 q2 Q2 cs H1 K1
    go_wp2_with fail
    go_ret
    exact ⟨rfl, Y.out, K2.out⟩
set_option maxHeartbeats 4000000 in
theorem hread5 (h : HP w g d b x) (hl : x.lim 1000000) (off : Int) (o0 : 0 ≤ off) (o1 : off ≤ 65535) (hk : whereI (plA off) = 5) :
    Calls Tryz.prog 104 #[.pointer (some ⟨g, 0, none⟩), .int .u16 off] w (HpR (.int .u8 x.buf) g d b x [g, b.v, b.c, b.p] w) := by
    obtain ⟨a0, a1⟩ := plA_bd off o0
    have bu0 := h.ok.2.2.1.1
    have bu1 := h.ok.2.2.1.2
    have tc0 := h.ok.1.2.1
    have H := Lib.hid h
    have HK := Lib.hid hk
    have HL := Lib.hid hl
    clear h hk hl
    go_enter Tryz.func104, Tryz.ntmps104
    go_wp2_with fail
    refine (addr_v (a := plA off) (by decide) (by decide) o0 o1 rfl).mono ?_
    rintro e w' ⟨rfl, rfl⟩
    go_wp2_with fail
    refine (where_v a0 a1 HK.out).mono ?_
    rintro e w1 ⟨rfl, b1⟩
    have H1 := Lib.hid (H.out.keep b1)
    have K1 : Hid (Kp [] w w1) := Lib.hid (Kp.of_below b1)
    clear b1 H
    go_wp2_with fail
    refine (pvalue_any H1.out.lat.1).mono ?_
    rintro e w' ⟨rfl, rfl⟩
    go_wp2_with fail
    go_ret
    exact ⟨rfl, H1.out, K1.out.mono (by simp)⟩
set_option maxHeartbeats 4000000 in
theorem hread6 (h : HP w g d b x) (hl : x.lim 1000000) (off : Int) (o0 : 0 ≤ off) (o1 : off ≤ 65535) (hk : whereI (plA off) = 6) :
    Calls Tryz.prog 104 #[.pointer (some ⟨g, 0, none⟩), .int .u16 off] w (HpR (.int .u8 (mixI x.buf 127 x.tm.c)) g d b { x with buf := mixI x.buf 127 x.tm.c } [g, b.v, b.c, b.p] w) := by
    obtain ⟨a0, a1⟩ := plA_bd off o0
    have bu0 := h.ok.2.2.1.1
    have bu1 := h.ok.2.2.1.2
    have tc0 := h.ok.1.2.1
    have H := Lib.hid h
    have HK := Lib.hid hk
    have HL := Lib.hid hl
    clear h hk hl
    go_enter Tryz.func104, Tryz.ntmps104
    go_wp2_with fail
    refine (addr_v (a := plA off) (by decide) (by decide) o0 o1 rfl).mono ?_
    rintro e w' ⟨rfl, rfl⟩
    go_wp2_with fail
    refine (where_v a0 a1 HK.out).mono ?_
    rintro e w1 ⟨rfl, b1⟩
    have H1 := Lib.hid (H.out.keep b1)
    have K1 : Hid (Kp [] w w1) := Lib.hid (Kp.of_below b1)
    clear b1 H
    go_wp2_with fail
    have mb := mix_byte x.buf 127 x.tm.c bu0 bu1 (by decide) (by decide) (by omega) (by omega)
    have MB := Lib.hid mb
    clear mb
    refine rg_begin (S := fun w' => True) 9 #[false, false, false, false, false, false, false, false, false] (by kernel_rfl) (by kernel_rfl) (by kernel_rfl) ?_ (fun hHeld => ?_)
    · exact trivial
    refine rg_take (i := 0) (d := some 32) (l := #[true, false, false, false, false, false, false, false, false]) (fuel := 8) (v := ?_) rfl (by kernel_rfl) (by kernel_rfl) (by kernel_rfl) (by kernel_rfl) (by kernel_rfl) (fun _ _ _ h => h) (by kernel_rfl) ?_ (by assumption) ?_
    rotate_left 1
    · (intro wS hSw; (try dsimp only at hSw); go_simp; try with_reducible rfl)
    try simp only [Act.put, List.setIfInBounds_toArray, List.set_cons_zero, List.set_cons_succ]
    refine rg_take (i := 1) (d := some 33) (l := #[true, true, false, false, false, false, false, false, false]) (fuel := 7) (v := ?_) rfl (by kernel_rfl) (by kernel_rfl) (by kernel_rfl) (by kernel_rfl) (by kernel_rfl) (fun _ _ _ h => h) (by kernel_rfl) ?_ (by assumption) ?_
    rotate_left 1
    · (intro wS hSw; (try dsimp only at hSw); go_simp; try with_reducible rfl)
    try simp only [Act.put, List.setIfInBounds_toArray, List.set_cons_zero, List.set_cons_succ]
    refine rg_take (i := 2) (d := some 34) (l := #[true, true, true, false, false, false, false, false, false]) (fuel := 6) (v := ?_) rfl (by kernel_rfl) (by kernel_rfl) (by kernel_rfl) (by kernel_rfl) (by kernel_rfl) (fun _ _ _ h => h) (by kernel_rfl) ?_ (by assumption) ?_
    rotate_left 1
    · (intro wS hSw; (try dsimp only at hSw); go_simp; try with_reducible rfl)
    try simp only [Act.put, List.setIfInBounds_toArray, List.set_cons_zero, List.set_cons_succ]
    refine rg_take (i := 3) (d := some 35) (l := #[true, true, true, true, false, false, false, false, false]) (fuel := 5) (v := ?_) rfl (by kernel_rfl) (by kernel_rfl) (by kernel_rfl) (by kernel_rfl) (by kernel_rfl) (fun _ _ _ h => h) (by kernel_rfl) ?_ (by assumption) ?_
    rotate_left 1
    · (intro wS hSw; (try dsimp only at hSw); go_simp; try with_reducible rfl)
    try simp only [Act.put, List.setIfInBounds_toArray, List.set_cons_zero, List.set_cons_succ]
    refine rg_take (i := 4) (d := some 36) (l := #[true, true, true, true, true, false, false, false, false]) (fuel := 4) (v := ?_) rfl (by kernel_rfl) (by kernel_rfl) (by kernel_rfl) (by kernel_rfl) (by kernel_rfl) (fun _ _ _ h => h) (by kernel_rfl) ?_ (by assumption) ?_
    rotate_left 1
    · (intro wS hSw; (try dsimp only at hSw); go_simp; try with_reducible rfl)
    try simp only [Act.put, List.setIfInBounds_toArray, List.set_cons_zero, List.set_cons_succ]
    refine rg_take (i := 5) (d := some 37) (l := #[true, true, true, true, true, true, false, false, false]) (fuel := 3) (v := ?_) rfl (by kernel_rfl) (by kernel_rfl) (by kernel_rfl) (by kernel_rfl) (by kernel_rfl) (fun _ _ _ h => h) (by kernel_rfl) ?_ (by assumption) ?_
    rotate_left 1
    · (intro wS hSw; (try dsimp only at hSw); go_simp; try with_reducible rfl)
    try simp only [Act.put, List.setIfInBounds_toArray, List.set_cons_zero, List.set_cons_succ]
    refine rg_next (i := 6) (l := #[true, true, true, true, true, true, true, false, false]) (fuel := 2) (by kernel_rfl) rfl (by kernel_rfl) (by kernel_rfl) (fun K hK => ?_)
    go_simp
    (go_at_call 133)
    obtain ⟨cs, q1, q2⟩ := (H1.out.kp0 (Kp.refl _ _).drew).tmr
    refine (tcounter_any q1).mono ?_
    rintro e w' ⟨rfl, rfl⟩
    clear q1 q2 cs
    first | (refine hK.out _ _ ?_ (fun hHeld => ?_)) | (go_wp2_with fail; refine hK.out _ _ ?_ (fun hHeld => ?_))
    · (try dsimp only); try exact trivial
    clear hK K
    try simp only [Act.put, List.setIfInBounds_toArray, List.set_cons_zero, List.set_cons_succ]
    refine rg_next (i := 7) (l := #[true, true, true, true, true, true, true, true, false]) (fuel := 1) (by kernel_rfl) rfl (by kernel_rfl) (by kernel_rfl) (fun K hK => ?_)
    go_simp
    (go_at_call 132)
    obtain ⟨l1, l2, l3⟩ := (H1.out.kp0 (Kp.refl _ _).drew).lat
    refine (plread_any l1 l2 127 x.tm.c).mono ?_
    rintro e w2 ⟨rfl, rfl⟩
    have Y := Lib.hid (l3 _ MB.out.1 MB.out.2)
    clear l1 l2 l3
    first | (refine hK.out _ _ ?_ (fun hHeld => ?_)) | (go_wp2_with fail; refine hK.out _ _ ?_ (fun hHeld => ?_))
    · (try dsimp only); try exact trivial
    clear hK K
    try simp only [Act.put, List.setIfInBounds_toArray, List.set_cons_zero, List.set_cons_succ]
    refine rg_take (i := 8) (d := some 4) (l := #[true, true, true, true, true, true, true, true, true]) (fuel := 0) (v := ?_) rfl (by kernel_rfl) (by kernel_rfl) (by kernel_rfl) (by kernel_rfl) (by kernel_rfl) (fun _ _ _ h => h) (by kernel_rfl) ?_ (by assumption) ?_
    rotate_left 1
    · (intro wS hSw; (try dsimp only at hSw); go_simp; try with_reducible rfl)
    try simp only [Act.put, List.setIfInBounds_toArray, List.set_cons_zero, List.set_cons_succ]
    refine wpAnyH_done (by kernel_rfl) ?_ _
    go_wp2_with fail
    go_ret
    exact ⟨rfl, Y.out.1, (K1.out.mono (M := [g, b.v, b.c, b.p]) (by simp)).drew.trans (Y.out.2.mono (M := [g, b.v, b.c, b.p]) (by simp)) (fun y hy => .inl hy)⟩
set_option maxHeartbeats 4000000 in
theorem hread7 (h : HP w g d b x) (hl : x.lim 1000000) (off : Int) (o0 : 0 ≤ off) (o1 : off ≤ 65535) (hk : whereI (plA off) = 7) :
    Calls Tryz.prog 104 #[.pointer (some ⟨g, 0, none⟩), .int .u16 off] w (HpR (.int .u8 (mixI x.buf 255 (x.pt.val (peekI (d.np - x.tp) (fun i => d.zp (x.tp + i)) 0)))) g d b { x with buf := mixI x.buf 255 (x.pt.val (peekI (d.np - x.tp) (fun i => d.zp (x.tp + i)) 0)), tp := if x.pt.takes then x.tp + 1 else x.tp } [g, b.v, b.c, b.p] w) := by
    obtain ⟨a0, a1⟩ := plA_bd off o0
    have bu0 := h.ok.2.2.1.1
    have bu1 := h.ok.2.2.1.2
    have tc0 := h.ok.1.2.1
    have H := Lib.hid h
    have HK := Lib.hid hk
    have HL := Lib.hid hl
    clear h hk hl
    have pb := H.out.pbyte
    obtain ⟨v, hv⟩ : ∃ v, x.pt.val (peekI (d.np - x.tp) (fun i => d.zp (x.tp + i)) 0) = v := ⟨_, rfl⟩
    obtain ⟨tq, htq⟩ : ∃ tq, (if x.pt.takes then x.tp + 1 else x.tp) = tq := ⟨_, rfl⟩
    rw [hv, htq]
    have vb := Pt.val_byte x.pt _ pb.1 pb.2
    rw [hv] at vb
    have mb := mix_byte x.buf 255 v bu0 bu1 (by decide) (by decide) vb.1 vb.2
    have MB := Lib.hid mb
    have HV := Lib.hid hv
    have HT := Lib.hid htq
    clear mb vb pb hv htq
    go_enter Tryz.func104, Tryz.ntmps104
    go_wp2_with fail
    refine (addr_v (a := plA off) (by decide) (by decide) o0 o1 rfl).mono ?_
    rintro e w' ⟨rfl, rfl⟩
    go_wp2_with fail
    refine (where_v a0 a1 HK.out).mono ?_
    rintro e w1 ⟨rfl, b1⟩
    have H1 := Lib.hid (H.out.keep b1)
    have K1 : Hid (Kp [] w w1) := Lib.hid (Kp.of_below b1)
    clear b1 H
    go_wp2_with fail
    refine rg_begin (S := fun w' => True) 9 #[false, false, false, false, false, false, false, false, false] (by kernel_rfl) (by kernel_rfl) (by kernel_rfl) ?_ (fun hHeld => ?_)
    · exact trivial
    refine rg_take (i := 0) (d := some 42) (l := #[true, false, false, false, false, false, false, false, false]) (fuel := 8) (v := ?_) rfl (by kernel_rfl) (by kernel_rfl) (by kernel_rfl) (by kernel_rfl) (by kernel_rfl) (fun _ _ _ h => h) (by kernel_rfl) ?_ (by assumption) ?_
    rotate_left 1
    · (intro wS hSw; (try dsimp only at hSw); go_simp; try with_reducible rfl)
    try simp only [Act.put, List.setIfInBounds_toArray, List.set_cons_zero, List.set_cons_succ]
    refine rg_take (i := 1) (d := some 43) (l := #[true, true, false, false, false, false, false, false, false]) (fuel := 7) (v := ?_) rfl (by kernel_rfl) (by kernel_rfl) (by kernel_rfl) (by kernel_rfl) (by kernel_rfl) (fun _ _ _ h => h) (by kernel_rfl) ?_ (by assumption) ?_
    rotate_left 1
    · (intro wS hSw; (try dsimp only at hSw); go_simp; try with_reducible rfl)
    try simp only [Act.put, List.setIfInBounds_toArray, List.set_cons_zero, List.set_cons_succ]
    refine rg_take (i := 2) (d := some 44) (l := #[true, true, true, false, false, false, false, false, false]) (fuel := 6) (v := ?_) rfl (by kernel_rfl) (by kernel_rfl) (by kernel_rfl) (by kernel_rfl) (by kernel_rfl) (fun _ _ _ h => h) (by kernel_rfl) ?_ (by assumption) ?_
    rotate_left 1
    · (intro wS hSw; (try dsimp only at hSw); go_simp; try with_reducible rfl)
    try simp only [Act.put, List.setIfInBounds_toArray, List.set_cons_zero, List.set_cons_succ]
    refine rg_take (i := 3) (d := some 45) (l := #[true, true, true, true, false, false, false, false, false]) (fuel := 5) (v := ?_) rfl (by kernel_rfl) (by kernel_rfl) (by kernel_rfl) (by kernel_rfl) (by kernel_rfl) (fun _ _ _ h => h) (by kernel_rfl) ?_ (by assumption) ?_
    rotate_left 1
    · (intro wS hSw; (try dsimp only at hSw); go_simp; try with_reducible rfl)
    try simp only [Act.put, List.setIfInBounds_toArray, List.set_cons_zero, List.set_cons_succ]
    refine rg_take (i := 4) (d := some 46) (l := #[true, true, true, true, true, false, false, false, false]) (fuel := 4) (v := ?_) rfl (by kernel_rfl) (by kernel_rfl) (by kernel_rfl) (by kernel_rfl) (by kernel_rfl) (fun _ _ _ h => h) (by kernel_rfl) ?_ (by assumption) ?_
    rotate_left 1
    · (intro wS hSw; (try dsimp only at hSw); go_simp; try with_reducible rfl)
    try simp only [Act.put, List.setIfInBounds_toArray, List.set_cons_zero, List.set_cons_succ]
    refine rg_take (i := 5) (d := some 47) (l := #[true, true, true, true, true, true, false, false, false]) (fuel := 3) (v := ?_) rfl (by kernel_rfl) (by kernel_rfl) (by kernel_rfl) (by kernel_rfl) (by kernel_rfl) (fun _ _ _ h => h) (by kernel_rfl) ?_ (by assumption) ?_
    rotate_left 1
    · (intro wS hSw; (try dsimp only at hSw); go_simp; try with_reducible rfl)
    try simp only [Act.put, List.setIfInBounds_toArray, List.set_cons_zero, List.set_cons_succ]
    refine rg_next (i := 6) (l := #[true, true, true, true, true, true, true, false, false]) (fuel := 2) (by kernel_rfl) rfl (by kernel_rfl) (by kernel_rfl) (fun K hK => ?_)
    go_simp
    (go_at_call 134)
    obtain ⟨cs, q1, q2⟩ := (H1.out.kp0 (Kp.refl _ _).drew).prt
    refine (pread_any q1 (by have := HL.out.2.2; omega)).mono ?_
    rw [HV.out, HT.out]
    rintro e w2 ⟨rfl, y1, y2⟩
    have H2 := Lib.hid (q2 _ _ _ _ y1 y2 (by simp))
    have K2 : Hid (Kp [g, b.v, b.c, b.p] w w2) := Lib.hid ((K1.out.drew.mono (by simp)).trans (y2.mono (M := [g, b.v, b.c, b.p]) (by simp)) (fun y hy => .inl hy))
    clear q1 q2 y1 y2 cs H1 K1
    first | (refine hK.out _ _ ?_ (fun hHeld => ?_)) | (go_wp2_with fail; refine hK.out _ _ ?_ (fun hHeld => ?_))
    · (try dsimp only); try exact trivial
    clear hK K
    try simp only [Act.put, List.setIfInBounds_toArray, List.set_cons_zero, List.set_cons_succ]
    refine rg_next (i := 7) (l := #[true, true, true, true, true, true, true, true, false]) (fuel := 1) (by kernel_rfl) rfl (by kernel_rfl) (by kernel_rfl) (fun K hK => ?_)
    go_simp
    (go_at_call 132)
    obtain ⟨l1, l2, l3⟩ := H2.out.lat
    refine (plread_any l1 l2 255 v).mono ?_
    rintro e w3 ⟨rfl, rfl⟩
    have Y := Lib.hid (l3 _ MB.out.1 MB.out.2)
    clear l1 l2 l3
    first | (refine hK.out _ _ ?_ (fun hHeld => ?_)) | (go_wp2_with fail; refine hK.out _ _ ?_ (fun hHeld => ?_))
    · (try dsimp only); try exact trivial
    clear hK K
    try simp only [Act.put, List.setIfInBounds_toArray, List.set_cons_zero, List.set_cons_succ]
    refine rg_take (i := 8) (d := some 4) (l := #[true, true, true, true, true, true, true, true, true]) (fuel := 0) (v := ?_) rfl (by kernel_rfl) (by kernel_rfl) (by kernel_rfl) (by kernel_rfl) (by kernel_rfl) (fun _ _ _ h => h) (by kernel_rfl) ?_ (by assumption) ?_
    rotate_left 1
    · (intro wS hSw; (try dsimp only at hSw); go_simp; try with_reducible rfl)
    try simp only [Act.put, List.setIfInBounds_toArray, List.set_cons_zero, List.set_cons_succ]
    refine wpAnyH_done (by kernel_rfl) ?_ _
    go_wp2_with fail
    go_ret
    refine ⟨rfl, ?_, K2.out.trans (Y.out.2.mono (M := [g, b.v, b.c, b.p]) (by simp)) (fun y hy => .inl hy)⟩
    exact Y.out.1
set_option maxHeartbeats 4000000 in
theorem hread8 (h : HP w g d b x) (hl : x.lim 1000000) (off : Int) (o0 : 0 ≤ off) (o1 : off ≤ 65535) (hk : whereI (plA off) = 8) :
    Calls Tryz.prog 104 #[.pointer (some ⟨g, 0, none⟩), .int .u16 off] w (HpR (.int .u8 (x.ri d (regI (plA off)))) g d b { x with buf := x.ri d (regI (plA off)) } [g, b.v, b.c, b.p] w) := by
    obtain ⟨a0, a1⟩ := plA_bd off o0
    have bu0 := h.ok.2.2.1.1
    have bu1 := h.ok.2.2.1.2
    have tc0 := h.ok.1.2.1
    have H := Lib.hid h
    have HK := Lib.hid hk
    have HL := Lib.hid hl
    clear h hk hl
    go_enter Tryz.func104, Tryz.ntmps104
    go_wp2_with fail
    refine (addr_v (a := plA off) (by decide) (by decide) o0 o1 rfl).mono ?_
    rintro e w' ⟨rfl, rfl⟩
    go_wp2_with fail
    refine (where_v a0 a1 HK.out).mono ?_
    rintro e w1 ⟨rfl, b1⟩
    have H1 := Lib.hid (H.out.keep b1)
    have K1 : Hid (Kp [] w w1) := Lib.hid (Kp.of_below b1)
    clear b1 H
    go_wp2_with fail
    refine (reg_v a0 a1 rfl).mono ?_
    rintro e w2 ⟨rfl, b2⟩
    have H2 := Lib.hid (H1.out.keep b2)
    have K2 : Hid (Kp [g] w w2) := Lib.hid ((K1.out.mono (by simp)).trans (Kp.of_below (L := [g]) b2) (by simp))
    clear b2 H1 K1
    go_wp2_with fail
    refine (hreadirq_any H2.out (regI (plA off))).mono ?_
    rintro e w3 ⟨rfl, y1, y2⟩
    have Y := Lib.hid y1
    have K3 := Lib.hid (K2.out.trans y2 (by simp))
    clear y1 y2
    go_wp2_with fail
    go_ret
    exact ⟨rfl, Y.out, K3.out.mono (by simp)⟩
set_option maxHeartbeats 4000000 in
theorem hread0 (h : HP w g d b x) (off k : Int) (o0 : 0 ≤ off) (o1 : off ≤ 65535) (hk : whereI (plA off) = k) (hn : k < 3 ∨ 8 < k) :
    Calls Tryz.prog 104 #[.pointer (some ⟨g, 0, none⟩), .int .u16 off] w (HpR (.int .u8 255) g d b x [g, b.v, b.c, b.p] w) := by
    obtain ⟨a0, a1⟩ := plA_bd off o0
    have n3 : (k == 3) = false := by simp; omega
    have n4 : (k == 4) = false := by simp; omega
    have n5 : (k == 5) = false := by simp; omega
    have n6 : (k == 6) = false := by simp; omega
    have n7 : (k == 7) = false := by simp; omega
    have n8 : (k == 8) = false := by simp; omega
    have H := Lib.hid h
    have HK := Lib.hid hk
    clear h hk hn
    go_enter Tryz.func104, Tryz.ntmps104
    go_wp2_with fail
    refine (addr_v (a := plA off) (by decide) (by decide) o0 o1 rfl).mono ?_
    rintro e w' ⟨rfl, rfl⟩
    go_wp2_with fail
    refine (where_v a0 a1 HK.out).mono ?_
    rintro e w1 ⟨rfl, b1⟩
    have H1 := Lib.hid (H.out.keep b1)
    have K1 : Hid (Kp [] w w1) := Lib.hid (Kp.of_below b1)
    clear b1 H
    go_wp2_with fail
    go_ret
    exact ⟨rfl, H1.out, K1.out.mono (by simp)⟩
theorem hread_any (h : HP w g d b x) (hl : x.lim 1000000) (off : Int) (o0 : 0 ≤ off) (o1 : off ≤ 65535) :
    Calls Tryz.prog 104 #[.pointer (some ⟨g, 0, none⟩), .int .u16 off] w (HpR (.int .u8 (x.rv d (whereI (plA off)) (regI (plA off)))) g d b (x.rd d (whereI (plA off)) (regI (plA off))) [g, b.v, b.c, b.p] w) := by
  obtain ⟨k, hk⟩ : ∃ k, whereI (plA off) = k := ⟨_, rfl⟩
  by_cases h3 : k = 3
  · subst h3; rw [hk]; exact hread3 h hl off o0 o1 hk
  by_cases h4 : k = 4
  · subst h4; rw [hk]; exact hread4 h hl off o0 o1 hk
  by_cases h5 : k = 5
  · subst h5; rw [hk]; exact hread5 h hl off o0 o1 hk
  by_cases h6 : k = 6
  · subst h6; rw [hk]; exact hread6 h hl off o0 o1 hk
  by_cases h7 : k = 7
  · subst h7; rw [hk]; exact hread7 h hl off o0 o1 hk
  by_cases h8 : k = 8
  · subst h8; rw [hk]; exact hread8 h hl off o0 o1 hk
  have e1 : x.rv d k (regI (plA off)) = 255 := by unfold Hp.rv; rw [if_neg h3, if_neg h4, if_neg h5, if_neg h6, if_neg h7, if_neg h8]
  have e2 : x.rd d k (regI (plA off)) = x := by unfold Hp.rd; rw [if_neg h3, if_neg h4, if_neg (by omega), if_neg h7]
  rw [hk, e1, e2]
  exact hread0 h off k o0 o1 hk (by omega)
set_option maxHeartbeats 4000000 in
theorem hwrite5 (h : HP w g d b x) (hl : x.lim 1000000) (off : Int) (o0 : 0 ≤ off) (o1 : off ≤ 65535) (u : Int) (u0 : 0 ≤ u) (u1 : u ≤ 255) (hk : whereI (plA off) = 5) :
    Calls Tryz.prog 100 #[.pointer (some ⟨g, 0, none⟩), .int .u16 off, .int .u8 u] w (HpR (.tuple #[]) g d b { x with buf := u } [g, b.v, b.c, b.p] w) := by
    obtain ⟨a0, a1⟩ := plA_bd off o0
    have bu0 := h.ok.2.2.1.1
    have bu1 := h.ok.2.2.1.2
    have tc0 := h.ok.1.2.1
    have H := Lib.hid h
    have HK := Lib.hid hk
    have HL := Lib.hid hl
    clear h hk hl
    go_enter Tryz.func100, Tryz.ntmps100
    go_wp2_with fail
    refine (addr_v (a := plA off) (by decide) (by decide) o0 o1 rfl).mono ?_
    rintro e w' ⟨rfl, rfl⟩
    go_wp2_with fail
    refine (where_v a0 a1 HK.out).mono ?_
    rintro e w1 ⟨rfl, b1⟩
    have H1 := Lib.hid (H.out.keep b1)
    have K1 : Hid (Kp [] w w1) := Lib.hid (Kp.of_below b1)
    clear b1 H
    go_wp2_with fail
    obtain ⟨l1, l2, l3⟩ := H1.out.lat
    refine (plwrite_any l1 l2 u).mono ?_
    rintro e w3 ⟨rfl, rfl⟩
    have L3 := Lib.hid (l3 u u0 u1)
    clear l1 l2 l3
    go_wp2_with fail
    first | go_end0 | refine bodyPost_ret (results_none rfl _ _ _) rfl ?_
    exact ⟨rfl, L3.out.1, (K1.out.mono (M := [g, b.v, b.c, b.p]) (by simp)).trans (L3.out.2.mono (M := [g, b.v, b.c, b.p]) (by simp)) (fun y hy => .inl hy)⟩
set_option maxHeartbeats 4000000 in
theorem hwrite6 (h : HP w g d b x) (hl : x.lim 1000000) (off : Int) (o0 : 0 ≤ off) (o1 : off ≤ 65535) (u : Int) (u0 : 0 ≤ u) (u1 : u ≤ 255) (hk : whereI (plA off) = 6) :
    Calls Tryz.prog 100 #[.pointer (some ⟨g, 0, none⟩), .int .u16 off, .int .u8 u] w (HpR (.tuple #[]) g d b { x with tm := x.tm.wr (regI (plA off)) u, buf := u } [g, b.v, b.c, b.p] w) := by
    obtain ⟨a0, a1⟩ := plA_bd off o0
    have bu0 := h.ok.2.2.1.1
    have bu1 := h.ok.2.2.1.2
    have tc0 := h.ok.1.2.1
    have H := Lib.hid h
    have HK := Lib.hid hk
    have HL := Lib.hid hl
    clear h hk hl
    go_enter Tryz.func100, Tryz.ntmps100
    go_wp2_with fail
    refine (addr_v (a := plA off) (by decide) (by decide) o0 o1 rfl).mono ?_
    rintro e w' ⟨rfl, rfl⟩
    go_wp2_with fail
    refine (where_v a0 a1 HK.out).mono ?_
    rintro e w1 ⟨rfl, b1⟩
    have H1 := Lib.hid (H.out.keep b1)
    have K1 : Hid (Kp [] w w1) := Lib.hid (Kp.of_below b1)
    clear b1 H
    go_wp2_with fail
    refine rg_begin (S := fun w' => True) 7 #[false, false, false, false, false, false, false] (by kernel_rfl) (by kernel_rfl) (by kernel_rfl) ?_ (fun hHeld => ?_)
    · exact trivial
    refine rg_take (i := 0) (d := some 17) (l := #[true, false, false, false, false, false, false]) (fuel := 6) (v := ?_) rfl (by kernel_rfl) (by kernel_rfl) (by kernel_rfl) (by kernel_rfl) (by kernel_rfl) (fun _ _ _ h => h) (by kernel_rfl) ?_ (by assumption) ?_
    rotate_left 1
    · (intro wS hSw; (try dsimp only at hSw); go_simp; try with_reducible rfl)
    try simp only [Act.put, List.setIfInBounds_toArray, List.set_cons_zero, List.set_cons_succ]
    refine rg_take (i := 1) (d := some 18) (l := #[true, true, false, false, false, false, false]) (fuel := 5) (v := ?_) rfl (by kernel_rfl) (by kernel_rfl) (by kernel_rfl) (by kernel_rfl) (by kernel_rfl) (fun _ _ _ h => h) (by kernel_rfl) ?_ (by assumption) ?_
    rotate_left 1
    · (intro wS hSw; (try dsimp only at hSw); go_simp; try with_reducible rfl)
    try simp only [Act.put, List.setIfInBounds_toArray, List.set_cons_zero, List.set_cons_succ]
    refine rg_take (i := 2) (d := some 19) (l := #[true, true, true, false, false, false, false]) (fuel := 4) (v := ?_) rfl (by kernel_rfl) (by kernel_rfl) (by kernel_rfl) (by kernel_rfl) (by kernel_rfl) (fun _ _ _ h => h) (by kernel_rfl) ?_ (by assumption) ?_
    rotate_left 1
    · (intro wS hSw; (try dsimp only at hSw); go_simp; try with_reducible rfl)
    try simp only [Act.put, List.setIfInBounds_toArray, List.set_cons_zero, List.set_cons_succ]
    refine rg_take (i := 3) (d := some 20) (l := #[true, true, true, true, false, false, false]) (fuel := 3) (v := ?_) rfl (by kernel_rfl) (by kernel_rfl) (by kernel_rfl) (by kernel_rfl) (by kernel_rfl) (fun _ _ _ h => h) (by kernel_rfl) ?_ (by assumption) ?_
    rotate_left 1
    · (intro wS hSw; (try dsimp only at hSw); go_simp; try with_reducible rfl)
    try simp only [Act.put, List.setIfInBounds_toArray, List.set_cons_zero, List.set_cons_succ]
    refine rg_take (i := 5) (d := some 22) (l := #[true, true, true, true, false, true, false]) (fuel := 2) (v := ?_) rfl (by kernel_rfl) (by kernel_rfl) (by kernel_rfl) (by kernel_rfl) (by kernel_rfl) (fun _ _ _ h => h) (by kernel_rfl) ?_ (by assumption) ?_
    rotate_left 1
    · (intro wS hSw; (try dsimp only at hSw); go_simp; try with_reducible rfl)
    try simp only [Act.put, List.setIfInBounds_toArray, List.set_cons_zero, List.set_cons_succ]
    refine rg_next (i := 4) (l := #[true, true, true, true, true, true, false]) (fuel := 1) (by kernel_rfl) rfl (by kernel_rfl) (by kernel_rfl) (fun K hK => ?_)
    go_simp
    (go_at_call 123)
    refine (reg_v a0 a1 rfl).mono ?_
    rintro e w2 ⟨rfl, b2⟩
    have HH := Lib.hid ((H1.out.kp0 (Kp.refl _ _).drew).keep b2)
    have KK : Hid (Kp [] w w2) := Lib.hid (K1.out.drew.trans (Kp.of_below (L := []) b2) (by simp))
    clear b2 H1 K1
    first | (refine hK.out _ _ ?_ (fun hHeld => ?_)) | (go_wp2_with fail; refine hK.out _ _ ?_ (fun hHeld => ?_))
    · (try dsimp only); try exact trivial
    clear hK K
    try simp only [Act.put, List.setIfInBounds_toArray, List.set_cons_zero, List.set_cons_succ]
    refine rg_next (i := 6) (l := #[true, true, true, true, true, true, true]) (fuel := 0) (by kernel_rfl) rfl (by kernel_rfl) (by kernel_rfl) (fun K hK => ?_)
    go_simp
    (go_at_call 115)
    obtain ⟨cs, q1, q2⟩ := HH.out.tmr
    refine (twrite_any q1 (regI (plA off)) u u0 u1).mono ?_
    rintro e w3 ⟨rfl, y1, y2⟩
    have H2 := Lib.hid (q2 _ _ y1 y2)
    have K2 : Hid (Kp [g, b.v, b.c, b.p] w w3) := Lib.hid ((KK.out.mono (by simp)).trans (y2.mono (M := [g, b.v, b.c, b.p]) (by simp)) (fun y hy => .inl hy))
    clear q1 q2 y1 y2 cs HH KK
    first | (refine hK.out _ _ ?_ (fun hHeld => ?_)) | (go_wp2_with fail; refine hK.out _ _ ?_ (fun hHeld => ?_))
    · (try dsimp only); try exact trivial
    clear hK K
    try simp only [Act.put, List.setIfInBounds_toArray, List.set_cons_zero, List.set_cons_succ]
    refine wpAnyH_done (by kernel_rfl) ?_ _
    obtain ⟨l1, l2, l3⟩ := H2.out.lat
    have L1 := Lib.hid l1
    have L2 := Lib.hid l2
    have L3 := Lib.hid (l3 u u0 u1)
    clear l1 l2 l3
    go_wp2_with fail
    refine (plwrite_any L1.out L2.out u).mono ?_
    rintro e w3 ⟨rfl, rfl⟩
    go_wp2_with fail
    first | go_end0 | refine bodyPost_ret (results_none rfl _ _ _) rfl ?_
    exact ⟨rfl, L3.out.1, K2.out.trans (L3.out.2.mono (M := [g, b.v, b.c, b.p]) (by simp)) (fun y hy => .inl hy)⟩
set_option maxHeartbeats 4000000 in
theorem hwrite7 (h : HP w g d b x) (hl : x.lim 1000000) (off : Int) (o0 : 0 ≤ off) (o1 : off ≤ 65535) (u : Int) (u0 : 0 ≤ u) (u1 : u ≤ 255) (hk : whereI (plA off) = 7) :
    Calls Tryz.prog 100 #[.pointer (some ⟨g, 0, none⟩), .int .u16 off, .int .u8 u] w (HpR (.tuple #[]) g d b { x with pt := x.pt.wr u, buf := u } [g, b.v, b.c, b.p] w) := by
    obtain ⟨a0, a1⟩ := plA_bd off o0
    have bu0 := h.ok.2.2.1.1
    have bu1 := h.ok.2.2.1.2
    have tc0 := h.ok.1.2.1
    have H := Lib.hid h
    have HK := Lib.hid hk
    have HL := Lib.hid hl
    clear h hk hl
    go_enter Tryz.func100, Tryz.ntmps100
    go_wp2_with fail
    refine (addr_v (a := plA off) (by decide) (by decide) o0 o1 rfl).mono ?_
    rintro e w' ⟨rfl, rfl⟩
    go_wp2_with fail
    refine (where_v a0 a1 HK.out).mono ?_
    rintro e w1 ⟨rfl, b1⟩
    have H1 := Lib.hid (H.out.keep b1)
    have K1 : Hid (Kp [] w w1) := Lib.hid (Kp.of_below b1)
    clear b1 H
    go_wp2_with fail
    obtain ⟨cs, q1, q2⟩ := H1.out.prt
    refine (pwrite_any q1 u u0 u1).mono ?_
    rintro e w2 ⟨rfl, y1, y2⟩
    have H2 := Lib.hid (q2 _ _ _ _ y1 y2 (by simp))
    have K2 : Hid (Kp [g, b.v, b.c, b.p] w w2) := Lib.hid ((K1.out.mono (by simp)).trans (y2.mono (M := [g, b.v, b.c, b.p]) (by simp)) (fun y hy => .inl hy))
    clear q1 q2 y1 y2 cs H1 K1
    obtain ⟨l1, l2, l3⟩ := H2.out.lat
    have L1 := Lib.hid l1
    have L2 := Lib.hid l2
    have L3 := Lib.hid (l3 u u0 u1)
    clear l1 l2 l3
    go_wp2_with fail
    refine (plwrite_any L1.out L2.out u).mono ?_
    rintro e w3 ⟨rfl, rfl⟩
    go_wp2_with fail
    first | go_end0 | refine bodyPost_ret (results_none rfl _ _ _) rfl ?_
    exact ⟨rfl, L3.out.1, K2.out.trans (L3.out.2.mono (M := [g, b.v, b.c, b.p]) (by simp)) (fun y hy => .inl hy)⟩
set_option maxHeartbeats 4000000 in
theorem hwrite8 (h : HP w g d b x) (hl : x.lim 1000000) (off : Int) (o0 : 0 ≤ off) (o1 : off ≤ 65535) (u : Int) (u0 : 0 ≤ u) (u1 : u ≤ 255) (hk : whereI (plA off) = 8) :
    Calls Tryz.prog 100 #[.pointer (some ⟨g, 0, none⟩), .int .u16 off, .int .u8 u] w (HpR (.tuple #[]) g d b { x with q := x.q.wr (regI (plA off)) u, buf := u } [g, b.v, b.c, b.p] w) := by
    obtain ⟨a0, a1⟩ := plA_bd off o0
    have bu0 := h.ok.2.2.1.1
    have bu1 := h.ok.2.2.1.2
    have tc0 := h.ok.1.2.1
    have H := Lib.hid h
    have HK := Lib.hid hk
    have HL := Lib.hid hl
    clear h hk hl
    go_enter Tryz.func100, Tryz.ntmps100
    go_wp2_with fail
    refine (addr_v (a := plA off) (by decide) (by decide) o0 o1 rfl).mono ?_
    rintro e w' ⟨rfl, rfl⟩
    go_wp2_with fail
    refine (where_v a0 a1 HK.out).mono ?_
    rintro e w1 ⟨rfl, b1⟩
    have H1 := Lib.hid (H.out.keep b1)
    have K1 : Hid (Kp [] w w1) := Lib.hid (Kp.of_below b1)
    clear b1 H
    go_wp2_with fail
    refine rg_begin (S := fun w' => True) 7 #[false, false, false, false, false, false, false] (by kernel_rfl) (by kernel_rfl) (by kernel_rfl) ?_ (fun hHeld => ?_)
    · exact trivial
    refine rg_take (i := 0) (d := some 33) (l := #[true, false, false, false, false, false, false]) (fuel := 6) (v := ?_) rfl (by kernel_rfl) (by kernel_rfl) (by kernel_rfl) (by kernel_rfl) (by kernel_rfl) (fun _ _ _ h => h) (by kernel_rfl) ?_ (by assumption) ?_
    rotate_left 1
    · (intro wS hSw; (try dsimp only at hSw); go_simp; try with_reducible rfl)
    try simp only [Act.put, List.setIfInBounds_toArray, List.set_cons_zero, List.set_cons_succ]
    refine rg_take (i := 1) (d := some 34) (l := #[true, true, false, false, false, false, false]) (fuel := 5) (v := ?_) rfl (by kernel_rfl) (by kernel_rfl) (by kernel_rfl) (by kernel_rfl) (by kernel_rfl) (fun _ _ _ h => h) (by kernel_rfl) ?_ (by assumption) ?_
    rotate_left 1
    · (intro wS hSw; (try dsimp only at hSw); go_simp; try with_reducible rfl)
    try simp only [Act.put, List.setIfInBounds_toArray, List.set_cons_zero, List.set_cons_succ]
    refine rg_take (i := 2) (d := some 35) (l := #[true, true, true, false, false, false, false]) (fuel := 4) (v := ?_) rfl (by kernel_rfl) (by kernel_rfl) (by kernel_rfl) (by kernel_rfl) (by kernel_rfl) (fun _ _ _ h => h) (by kernel_rfl) ?_ (by assumption) ?_
    rotate_left 1
    · (intro wS hSw; (try dsimp only at hSw); go_simp; try with_reducible rfl)
    try simp only [Act.put, List.setIfInBounds_toArray, List.set_cons_zero, List.set_cons_succ]
    refine rg_take (i := 3) (d := some 36) (l := #[true, true, true, true, false, false, false]) (fuel := 3) (v := ?_) rfl (by kernel_rfl) (by kernel_rfl) (by kernel_rfl) (by kernel_rfl) (by kernel_rfl) (fun _ _ _ h => h) (by kernel_rfl) ?_ (by assumption) ?_
    rotate_left 1
    · (intro wS hSw; (try dsimp only at hSw); go_simp; try with_reducible rfl)
    try simp only [Act.put, List.setIfInBounds_toArray, List.set_cons_zero, List.set_cons_succ]
    refine rg_take (i := 5) (d := some 38) (l := #[true, true, true, true, false, true, false]) (fuel := 2) (v := ?_) rfl (by kernel_rfl) (by kernel_rfl) (by kernel_rfl) (by kernel_rfl) (by kernel_rfl) (fun _ _ _ h => h) (by kernel_rfl) ?_ (by assumption) ?_
    rotate_left 1
    · (intro wS hSw; (try dsimp only at hSw); go_simp; try with_reducible rfl)
    try simp only [Act.put, List.setIfInBounds_toArray, List.set_cons_zero, List.set_cons_succ]
    refine rg_next (i := 4) (l := #[true, true, true, true, true, true, false]) (fuel := 1) (by kernel_rfl) rfl (by kernel_rfl) (by kernel_rfl) (fun K hK => ?_)
    go_simp
    (go_at_call 123)
    refine (reg_v a0 a1 rfl).mono ?_
    rintro e w2 ⟨rfl, b2⟩
    have HH := Lib.hid ((H1.out.kp0 (Kp.refl _ _).drew).keep b2)
    have KK : Hid (Kp [] w w2) := Lib.hid (K1.out.drew.trans (Kp.of_below (L := []) b2) (by simp))
    clear b2 H1 K1
    first | (refine hK.out _ _ ?_ (fun hHeld => ?_)) | (go_wp2_with fail; refine hK.out _ _ ?_ (fun hHeld => ?_))
    · (try dsimp only); try exact trivial
    clear hK K
    try simp only [Act.put, List.setIfInBounds_toArray, List.set_cons_zero, List.set_cons_succ]
    refine rg_next (i := 6) (l := #[true, true, true, true, true, true, true]) (fuel := 0) (by kernel_rfl) rfl (by kernel_rfl) (by kernel_rfl) (fun K hK => ?_)
    go_simp
    (go_at_call 116)
    obtain ⟨cs, q1, q2⟩ := HH.out.irq
    refine (qwrite_any q1 (regI (plA off)) u u0 u1).mono ?_
    rintro e w3 ⟨rfl, y1, y2⟩
    have H2 := Lib.hid (q2 _ _ y1 y2)
    have K2 : Hid (Kp [g, b.v, b.c, b.p] w w3) := Lib.hid ((KK.out.mono (by simp)).trans (y2.mono (M := [g, b.v, b.c, b.p]) (by simp)) (fun y hy => .inl hy))
    clear q1 q2 y1 y2 cs HH KK
    first | (refine hK.out _ _ ?_ (fun hHeld => ?_)) | (go_wp2_with fail; refine hK.out _ _ ?_ (fun hHeld => ?_))
    · (try dsimp only); try exact trivial
    clear hK K
    try simp only [Act.put, List.setIfInBounds_toArray, List.set_cons_zero, List.set_cons_succ]
    refine wpAnyH_done (by kernel_rfl) ?_ _
    obtain ⟨l1, l2, l3⟩ := H2.out.lat
    have L1 := Lib.hid l1
    have L2 := Lib.hid l2
    have L3 := Lib.hid (l3 u u0 u1)
    clear l1 l2 l3
    go_wp2_with fail
    refine (plwrite_any L1.out L2.out u).mono ?_
    rintro e w3 ⟨rfl, rfl⟩
    go_wp2_with fail
    first | go_end0 | refine bodyPost_ret (results_none rfl _ _ _) rfl ?_
    exact ⟨rfl, L3.out.1, K2.out.trans (L3.out.2.mono (M := [g, b.v, b.c, b.p]) (by simp)) (fun y hy => .inl hy)⟩
set_option maxHeartbeats 4000000 in
theorem hwrite0 (h : HP w g d b x) (off k : Int) (o0 : 0 ≤ off) (o1 : off ≤ 65535) (u : Int) (hk : whereI (plA off) = k) (hn : k < 5 ∨ 8 < k) :
    Calls Tryz.prog 100 #[.pointer (some ⟨g, 0, none⟩), .int .u16 off, .int .u8 u] w (HpR (.tuple #[]) g d b x [g, b.v, b.c, b.p] w) := by
    obtain ⟨a0, a1⟩ := plA_bd off o0
    have n5 : (k == 5) = false := by simp; omega
    have n6 : (k == 6) = false := by simp; omega
    have n7 : (k == 7) = false := by simp; omega
    have n8 : (k == 8) = false := by simp; omega
    have H := Lib.hid h
    have HK := Lib.hid hk
    clear h hk hn
    go_enter Tryz.func100, Tryz.ntmps100
    go_wp2_with fail
    refine (addr_v (a := plA off) (by decide) (by decide) o0 o1 rfl).mono ?_
    rintro e w' ⟨rfl, rfl⟩
    go_wp2_with fail
    refine (where_v a0 a1 HK.out).mono ?_
    rintro e w1 ⟨rfl, b1⟩
    have H1 := Lib.hid (H.out.keep b1)
    have K1 : Hid (Kp [] w w1) := Lib.hid (Kp.of_below b1)
    clear b1 H
    go_wp2_with fail
    first | go_end0 | refine bodyPost_ret (results_none rfl _ _ _) rfl ?_
    exact ⟨rfl, H1.out, K1.out.mono (by simp)⟩
theorem hwrite_any (h : HP w g d b x) (hl : x.lim 1000000) (off u : Int) (o0 : 0 ≤ off) (o1 : off ≤ 65535) (u0 : 0 ≤ u) (u1 : u ≤ 255) :
    Calls Tryz.prog 100 #[.pointer (some ⟨g, 0, none⟩), .int .u16 off, .int .u8 u] w (HpR (.tuple #[]) g d b (x.wr (whereI (plA off)) (regI (plA off)) u) [g, b.v, b.c, b.p] w) := by
  obtain ⟨k, hk⟩ : ∃ k, whereI (plA off) = k := ⟨_, rfl⟩
  by_cases h5 : k = 5
  · subst h5; rw [hk]; exact hwrite5 h hl off o0 o1 u u0 u1 hk
  by_cases h6 : k = 6
  · subst h6; rw [hk]; exact hwrite6 h hl off o0 o1 u u0 u1 hk
  by_cases h7 : k = 7
  · subst h7; rw [hk]; exact hwrite7 h hl off o0 o1 u u0 u1 hk
  by_cases h8 : k = 8
  · subst h8; rw [hk]; exact hwrite8 h hl off o0 o1 u u0 u1 hk
  have e2 : x.wr k (regI (plA off)) u = x := by unfold Hp.wr; rw [if_neg h5, if_neg h6, if_neg h7, if_neg h8]
  rw [hk, e2]
  exact hwrite0 h off k o0 o1 u hk (by omega)
end
end Go.Proofs.YtngfmofjonleeaaGreat
