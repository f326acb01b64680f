/-
  Texts of these proofs, one behind the other: Feed5, Hard8, Hard2.
-/
import Derived.Test.YtleofglnlfpoeaaGreatKBP17
import Derived.LoopN
import Derived.Test.YtleofglnlfpoeaaGreatKBP19
import Derived.Test.YtleofglnlfpoeaaGreatKBP10
import Derived.Deep.Cut
import Derived.Deep.CutRange
namespace Go.Proofs.YtleofglnlfpoeaaGreat
open Go.RowKit
set_option linter.unusedVariables false
set_option maxRecDepth 100000
def longB (a b c : Nat) : Bool := decide (10000 < a ∨ 10000 < b ∨ 10000 < c)
set_option maxHeartbeats 1000000 in
theorem anyLong_any {w : World} {g : Nat} (A B C : Option Addr) (a b c ca cb cc : Nat) (ha : a ≤ 9223372036854775807) (hb : b ≤ 9223372036854775807) (hc : c ≤ 9223372036854775807)
    (h : Blk w g 22 #[.slice A a ca, .slice B b cb, .slice C c cc]) :
    Calls Tryz.prog 78 #[.slice (some ⟨g, 0, none⟩) 3 3] w fun e w' => e = .returned (.bool (longB a b c)) ∧ w = w' := by
  have c0 : w.cell? ⟨g, 0, none⟩ = some (.slice A a ca) := h.cell 0
  have c1 : w.cell? ⟨g, 1, none⟩ = some (.slice B b cb) := h.cell 1
  have c2 : w.cell? ⟨g, 2, none⟩ = some (.slice C c cc) := h.cell 2
  clear h
  by_cases h1 : 10000 < a
  · have e : longB a b c = true := by unfold longB; simp [h1]
    rw [e]
    have h1' : (10000 : Int) < a := by omega
    go_enter Tryz.func78, Tryz.ntmps78
    go_wp2
    refine wp_loop_rounds 1 ?_
    rw [rounds_succ]
    go_wp2
    go_ret
    exact ⟨rfl, rfl⟩
  by_cases h2 : 10000 < b
  · have e : longB a b c = true := by unfold longB; simp [h2]
    rw [e]
    have h1' : ¬ (10000 : Int) < a := by omega
    have h2' : (10000 : Int) < b := by omega
    go_enter Tryz.func78, Tryz.ntmps78
    go_wp2
    refine wp_loop_rounds 2 ?_
    rw [rounds_succ]
    go_wp2
    rw [rounds_succ]
    go_wp2
    go_ret
    exact ⟨rfl, rfl⟩
  by_cases h3 : 10000 < c
  · have e : longB a b c = true := by unfold longB; simp [h3]
    rw [e]
    have h1' : ¬ (10000 : Int) < a := by omega
    have h2' : ¬ (10000 : Int) < b := by omega
    have h3' : (10000 : Int) < c := by omega
    go_enter Tryz.func78, Tryz.ntmps78
    go_wp2
    refine wp_loop_rounds 3 ?_
    rw [rounds_succ]
    go_wp2
    rw [rounds_succ]
    go_wp2
    rw [rounds_succ]
    go_wp2
    go_ret
    exact ⟨rfl, rfl⟩
  · have e : longB a b c = false := by unfold longB; simp [h1, h2, h3]
    rw [e]
    have h1' : ¬ (10000 : Int) < a := by omega
    have h2' : ¬ (10000 : Int) < b := by omega
    have h3' : ¬ (10000 : Int) < c := by omega
    go_enter Tryz.func78, Tryz.ntmps78
    go_wp2
    refine wp_loop_rounds 4 ?_
    rw [rounds_succ]
    go_wp2
    rw [rounds_succ]
    go_wp2
    rw [rounds_succ]
    go_wp2
    rw [rounds_succ]
    go_wp2
    go_ret
    exact ⟨rfl, rfl⟩
set_option maxHeartbeats 1000000 in
theorem fcheck_any {w : World} (A B C : Option Addr) (a b c ca cb cc : Nat) (ha : a ≤ 9223372036854775807) (hb : b ≤ 9223372036854775807) (hc : c ≤ 9223372036854775807) :
    Calls Tryz.prog 30 #[.agg #[.slice A a ca, .slice B b cb, .slice C c cc]] w fun e w' => e = .returned (.int .i64 (if longB a b c then 2 else 0)) ∧ Below w.heap.size w w' := by
  obtain ⟨l, hl⟩ : ∃ l, longB a b c = l := ⟨_, rfl⟩
  rw [hl]
  have HL := Lib.hid hl
  clear hl
  go_enter Tryz.func30, Tryz.ntmps30
  go_wp2_with fail
  refine (anyLong_any A B C a b c ca cb cc ha hb hc (Blk.new_ (by simp))).mono ?_
  rintro e w1 ⟨rfl, rfl⟩
  rw [HL.out]
  cases l
  all_goals
    go_wp2
    go_ret
    exact ⟨rfl, ((Below.refl _ _).alloc (Nat.le_refl _) _).alloc (by simp) _⟩
end Go.Proofs.YtleofglnlfpoeaaGreat
namespace Go.Proofs.YtleofglnlfpoeaaGreat
open Go.RowKit
set_option linter.unusedVariables false
set_option linter.unusedSimpArgs false
set_option maxRecDepth 100000
def Hp.new : Hp := ⟨Tm.new, 0, false, 0, ⟨0, false⟩, ⟨0, 0⟩, 0, 0, 0, 0⟩
theorem Hp.new_ok (d : Hd) : Hp.new.ok d := ⟨Tm.new_ok, Nat.zero_le _, ⟨by decide, by decide⟩, by decide, ⟨by decide, by decide⟩, by decide⟩
def NewHR (d : Hd) (w : World) (e : Ending) (w' : World) : Prop :=
  ∃ g b, e = .returned (.tuple #[.pointer (some ⟨g, 0, none⟩), .agg #[.int .i64 0, .int .i64 0]]) ∧ (w.heap.size ≤ g ∧ w.heap.size ≤ b.v ∧ w.heap.size ≤ b.c ∧ w.heap.size ≤ b.p) ∧ HP w' g d b Hp.new ∧ Below w.heap.size w w'
def NewHN (r : Int × Int) (w : World) (e : Ending) (w' : World) : Prop := e = .returned (.tuple #[.pointer none, .agg #[.int .i64 r.1, .int .i64 r.2]]) ∧ Below w.heap.size w w'
section
variable {w : World} {A1 A2 A3 A : Option Addr} {n1 c1 n2 c2 n3 c3 n c : Nat} {z1 z2 z3 : Nat → Int} {es : Nat → Iib}
theorem HP.bkp {w w' : World} {k : Nat} {t : TypeId} {cs : Array Value} {B : Nat} (h : Blk w k t cs) (kp : Below B w w') (hB : k < B) : Blk w' k t cs := h.below kp hB
set_option maxHeartbeats 16000000 in
theorem hnew_yes (N1 : A1 = none → n1 = 0 ∧ c1 = 0) (N2 : A2 = none → n2 = 0 ∧ c2 = 0) (N3 : A3 = none → n3 = 0 ∧ c3 = 0) (NE : A = none → n = 0 ∧ c = 0)
    (R1 : IRow w .u8 A1 n1 z1) (R2 : IRow w .u8 A2 n2 z2) (R3 : IRow w .u8 A3 n3 z3) (RE : ERow w A n es) (hl : ¬ (10000 < n1 ∨ 10000 < n2 ∨ 10000 < n3)) (hc : n ≤ 9223372036854775807) (hk : (chk es n).1 = 0) (hG : Good n es) :
    Calls Tryz.prog 5 #[.agg #[.slice A1 n1 c1, .slice A2 n2 c2, .slice A3 n3 c3], .slice A n c] w (NewHR ⟨n, es, n1, z1, n2, z2, n3, z3⟩ w) := by
  have hlb : longB n1 n2 n3 = false := decide_eq_false hl
  have hchk := fcheck_any (w := (w.alloc (.cells #[.slice A1 n1 c1, .slice A2 n2 c2, .slice A3 n3 c3] 25)).alloc (.cells #[.int .i64 0, .int .i64 0] 34)) A1 A2 A3 n1 n2 n3 c1 c2 c3 (by omega) (by omega) (by omega)
  rw [hlb] at hchk
  have HCHK := Lib.hid hchk
  have hb1 : Below w.heap.size w ((w.alloc (.cells #[.slice A1 n1 c1, .slice A2 n2 c2, .slice A3 n3 c3] 25)).alloc (.cells #[.int .i64 0, .int .i64 0] 34)) := ((Below.refl _ _).alloc (Nat.le_refl _) _).alloc (by simp) _
  have F0 := Lib.hid ((Blk.new w 25 #[.slice A1 n1 c1, .slice A2 n2 c2, .slice A3 n3 c3]).alloc (.cells #[.int .i64 0, .int .i64 0] 34))
  have G0 := Lib.hid (Blk.new (w.alloc (.cells #[.slice A1 n1 c1, .slice A2 n2 c2, .slice A3 n3 c3] 25)) 34 #[.int .i64 0, .int .i64 0])
  rw [World.size_alloc] at G0
  have HB := Lib.hid hb1
  have HR1 := Lib.hid R1
  have HR2 := Lib.hid R2
  have HR3 := Lib.hid R3
  have HRE := Lib.hid RE
  have HN1 := Lib.hid N1
  have HN2 := Lib.hid N2
  have HN3 := Lib.hid N3
  have HNE := Lib.hid NE
  have HK := Lib.hid hk
  have HG := Lib.hid hG
  have hn : n1 ≤ 10000 ∧ n2 ≤ 10000 ∧ n3 ≤ 10000 := by omega
  clear hlb hchk hb1 R1 R2 R3 RE N1 N2 N3 NE hk hG hl
  go_enter Tryz.func5, Tryz.ntmps5
  go_wp2_with fail
  obtain ⟨B, hBB⟩ : ∃ B, w.heap.size = B := ⟨_, rfl⟩
  have HBB := Lib.hid hBB
  rw [hBB] at F0 G0 HB
  simp only [hBB]
  clear hBB
  generalize World.alloc _ _ = w1 at *
  refine HCHK.out.mono ?_
  rintro e w2 ⟨rfl, b2⟩
  have s1 : B + 1 < w1.heap.size := G0.out.lt
  have HB2 := Lib.hid (HB.out.trans (b2.mono (by omega)))
  have F2 := Lib.hid (F0.out.below b2 F0.out.lt)
  have G2 := Lib.hid (G0.out.below b2 G0.out.lt)
  clear b2 HB F0 G0 HCHK s1
  go_wp2_with fail
  refine (lnew_yes HNE.out (FRow.keep HRE.out (by rw [HBB.out]; exact HB2.out)) hc HK.out).mono ?_
  rintro e w3 ⟨gl, rfl, hgl, ⟨_, Ae, ce, y1, y2⟩, b3⟩
  have s2 : B + 1 < w2.heap.size := G2.out.lt
  have HB3 := Lib.hid (HB2.out.trans (b3.mono (by omega)))
  have F3 := Lib.hid (F2.out.below b3 F2.out.lt)
  have G3 := Lib.hid (G2.out.below b3 G2.out.lt)
  have L3 := Lib.hid y1
  have E3 := Lib.hid y2
  have hgB : B + 1 < gl := by omega
  clear b3 y1 y2 HB2 F2 G2 s2 hgl
  go_wp2_with fail
  have F4 : Hid (Blk (w3.alloc (.cells #[.int .i64 0, .int .i64 0] 34)).drew B 25 #[.slice A1 n1 c1, .slice A2 n2 c2, .slice A3 n3 c3]) := Lib.hid ((F3.out.alloc _).drew_)
  have G4 : Hid (Blk (w3.alloc (.cells #[.int .i64 0, .int .i64 0] 34)).drew (B + 1) 34 #[.int .i64 0, .int .i64 0]) := Lib.hid ((G3.out.alloc _).drew_)
  have L4 : Hid (Blk (w3.alloc (.cells #[.int .i64 0, .int .i64 0] 34)).drew gl 80 #[.slice Ae n ce, .int .i64 0, .bool false, .bool false, .bool false, .bool false, .bool false]) := Lib.hid ((L3.out.alloc _).drew_)
  have b4 : Below w3.heap.size w3 (w3.alloc (.cells #[.int .i64 0, .int .i64 0] 34)).drew := ((Below.refl _ _).alloc (Nat.le_refl _) _).drew
  have s3 : B + 1 < w3.heap.size := G3.out.lt
  have HB4 := Lib.hid (HB3.out.trans (b4.mono (by omega)))
  have E4 := Lib.hid (E3.out.keep b4)
  have FF := F4
  have GG := G4
  have LL := L4
  have EE := E4
  have BB := HB4
  have s4 : B + 1 < (w3.alloc (.cells #[.int .i64 0, .int .i64 0] 34)).drew.heap.size := G4.out.lt
  clear F3 G3 L3 b4 s3 HB3 E3 F4 G4 L4 HB4 E4
  refine rg_begin (S := fun w' => w'.cell? ⟨B, 0, none⟩ = some (.slice A1 n1 c1) ∧ w'.cell? ⟨B, 1, none⟩ = some (.slice A2 n2 c2) ∧ w'.cell? ⟨B, 2, none⟩ = some (.slice A3 n3 c3) ∧ Blk w' gl 80 #[.slice Ae n ce, .int .i64 0, .bool false, .bool false, .bool false, .bool false, .bool false]) 32 #[false, false, false, false, false, false, false, false, false, false, false, false, false, false, false, false, false, false, false, false, false, false, false, false, false, false, false, false, false, false, false, false] (by kernel_rfl) (by kernel_rfl) (by kernel_rfl) ?_ (fun hHeld => ?_)
  · exact ⟨FF.out.cell 0, FF.out.cell 1, FF.out.cell 2, LL.out⟩
  generalize (World.alloc w3 _).drew = w5 at *
  refine rg_take (i := 3) (d := some 27) (l := #[false, false, false, true, false, false, false, false, false, false, false, false, false, false, false, false, false, false, false, false, false, false, false, false, false, false, false, false, false, false, false, false]) (fuel := 31) (v := ?_) rfl (by kernel_rfl) (by kernel_rfl) (by kernel_rfl) (by kernel_rfl) (by kernel_rfl) (fun _ _ _ h => h) (by kernel_rfl) ?_ (by assumption) ?_
  rotate_left 1
  · (intro wS hSw; (try dsimp only at hSw); go_simp; try with_reducible rfl)
  try simp only [Act.put, List.setIfInBounds_toArray, List.set_cons_zero, List.set_cons_succ]
  refine rg_take (i := 4) (d := some 28) (l := #[false, false, false, true, true, false, false, false, false, false, false, false, false, false, false, false, false, false, false, false, false, false, false, false, false, false, false, false, false, false, false, false]) (fuel := 30) (v := ?_) rfl (by kernel_rfl) (by kernel_rfl) (by kernel_rfl) (by kernel_rfl) (by kernel_rfl) (fun _ _ _ h => h) (by kernel_rfl) ?_ (by assumption) ?_
  rotate_left 1
  · (intro wS hSw; (try dsimp only at hSw); go_simp; try with_reducible rfl)
  try simp only [Act.put, List.setIfInBounds_toArray, List.set_cons_zero, List.set_cons_succ]
  refine rg_take (i := 12) (d := some 36) (l := #[false, false, false, true, true, false, false, false, false, false, false, false, true, false, false, false, false, false, false, false, false, false, false, false, false, false, false, false, false, false, false, false]) (fuel := 29) (v := ?_) rfl (by kernel_rfl) (by kernel_rfl) (by kernel_rfl) (by kernel_rfl) (by kernel_rfl) (fun _ _ _ h => h) (by kernel_rfl) ?_ (by assumption) ?_
  rotate_left 1
  · (intro wS hSw; (try dsimp only at hSw); go_simp; try with_reducible rfl)
  try simp only [Act.put, List.setIfInBounds_toArray, List.set_cons_zero, List.set_cons_succ]
  refine rg_take (i := 13) (d := some 37) (l := #[false, false, false, true, true, false, false, false, false, false, false, false, true, true, false, false, false, false, false, false, false, false, false, false, false, false, false, false, false, false, false, false]) (fuel := 28) (v := ?_) rfl (by kernel_rfl) (by kernel_rfl) (by kernel_rfl) (by kernel_rfl) (by kernel_rfl) (fun _ _ _ h => h) (by kernel_rfl) ?_ (by assumption) ?_
  rotate_left 1
  · (intro wS hSw; (try dsimp only at hSw); go_simp; try with_reducible rfl)
  try simp only [Act.put, List.setIfInBounds_toArray, List.set_cons_zero, List.set_cons_succ]
  refine rg_take (i := 17) (d := some 41) (l := #[false, false, false, true, true, false, false, false, false, false, false, false, true, true, false, false, false, true, false, false, false, false, false, false, false, false, false, false, false, false, false, false]) (fuel := 27) (v := ?_) rfl (by kernel_rfl) (by kernel_rfl) (by kernel_rfl) (by kernel_rfl) (by kernel_rfl) (fun _ _ _ h => h) (by kernel_rfl) ?_ (by assumption) ?_
  rotate_left 1
  · (intro wS hSw; (try dsimp only at hSw); go_simp; try with_reducible rfl)
  try simp only [Act.put, List.setIfInBounds_toArray, List.set_cons_zero, List.set_cons_succ]
  refine rg_take (i := 18) (d := some 42) (l := #[false, false, false, true, true, false, false, false, false, false, false, false, true, true, false, false, false, true, true, false, false, false, false, false, false, false, false, false, false, false, false, false]) (fuel := 26) (v := ?_) rfl (by kernel_rfl) (by kernel_rfl) (by kernel_rfl) (by kernel_rfl) (by kernel_rfl) (fun _ _ _ h => h) (by kernel_rfl) ?_ (by assumption) ?_
  rotate_left 1
  · (intro wS hSw; (try dsimp only at hSw); go_simp; try with_reducible rfl)
  try simp only [Act.put, List.setIfInBounds_toArray, List.set_cons_zero, List.set_cons_succ]
  refine rg_take (i := 22) (d := some 46) (l := #[false, false, false, true, true, false, false, false, false, false, false, false, true, true, false, false, false, true, true, false, false, false, true, false, false, false, false, false, false, false, false, false]) (fuel := 25) (v := ?_) rfl (by kernel_rfl) (by kernel_rfl) (by kernel_rfl) (by kernel_rfl) (by kernel_rfl) (fun _ _ _ h => h) (by kernel_rfl) ?_ (by assumption) ?_
  rotate_left 1
  · (intro wS hSw; (try dsimp only at hSw); go_simp; try with_reducible rfl)
  try simp only [Act.put, List.setIfInBounds_toArray, List.set_cons_zero, List.set_cons_succ]
  refine rg_take (i := 23) (d := some 47) (l := #[false, false, false, true, true, false, false, false, false, false, false, false, true, true, false, false, false, true, true, false, false, false, true, true, false, false, false, false, false, false, false, false]) (fuel := 24) (v := ?_) rfl (by kernel_rfl) (by kernel_rfl) (by kernel_rfl) (by kernel_rfl) (by kernel_rfl) (fun _ _ _ h => h) (by kernel_rfl) ?_ (by assumption) ?_
  rotate_left 1
  · (intro wS hSw; (try dsimp only at hSw); go_simp; try with_reducible rfl)
  try simp only [Act.put, List.setIfInBounds_toArray, List.set_cons_zero, List.set_cons_succ]
  refine rg_take (i := 29) (d := some 53) (l := #[false, false, false, true, true, false, false, false, false, false, false, false, true, true, false, false, false, true, true, false, false, false, true, true, false, false, false, false, false, true, false, false]) (fuel := 23) (v := ?_) rfl (by kernel_rfl) (by kernel_rfl) (by kernel_rfl) (by kernel_rfl) (by kernel_rfl) (fun _ _ _ h => h) (by kernel_rfl) ?_ (by assumption) ?_
  rotate_left 1
  · (intro wS hSw; (try dsimp only at hSw); go_simp; try with_reducible rfl)
  try simp only [Act.put, List.setIfInBounds_toArray, List.set_cons_zero, List.set_cons_succ]
  refine rg_take (i := 5) (d := some 29) (l := #[false, false, false, true, true, true, false, false, false, false, false, false, true, true, false, false, false, true, true, false, false, false, true, true, false, false, false, false, false, true, false, false]) (fuel := 22) (v := .agg #[.slice Ae n ce, .int .i64 0, .bool false, .bool false, .bool false, .bool false, .bool false]) rfl (by kernel_rfl) (by kernel_rfl) (by kernel_rfl) (by kernel_rfl) (by kernel_rfl) (fun _ _ _ h => h) (by kernel_rfl) ?_ (by assumption) ?_
  · (intro wS hSw; (try dsimp only at hSw); exact exec_load_row 80 (.tmp 28) rfl gl rfl 80 #[.slice Ae n ce, .int .i64 0, .bool false, .bool false, .bool false, .bool false, .bool false] (0, 0) _ hSw.2.2.2 Tryz.underlying80 rfl (by kernel_rfl))
  try simp only [Act.put, List.setIfInBounds_toArray, List.set_cons_zero, List.set_cons_succ]
  refine rg_next (i := 0) (l := #[true, false, false, true, true, true, false, false, false, false, false, false, true, true, false, false, false, true, true, false, false, false, true, true, false, false, false, false, false, true, false, false]) (fuel := 21) (by kernel_rfl) rfl (by kernel_rfl) (by kernel_rfl) (fun K hK => ?_)
  go_simp
  (go_at_call 32)
  refine (tnew_any w5).mono ?_
  rintro e w6 ⟨rfl, y1, b6⟩
  obtain ⟨gt, hgt⟩ : ∃ gt, w5.heap.size = gt := ⟨_, rfl⟩
  have N1 : Hid (Blk w6 gt 75 #[.int .i64 0, .int .u8 0, .int .u8 0, .bool false]) := Lib.hid (hgt ▸ y1.1)
  simp only [hgt]
  have v1 : B + 1 < gt := by omega
  clear y1 hgt
  have BB' := Lib.hid (BB.out.trans (b6.mono (by omega)))
  replace FF := Lib.hid (FF.out.below b6 FF.out.lt)
  replace GG := Lib.hid (GG.out.below b6 GG.out.lt)
  replace LL := Lib.hid (LL.out.below b6 LL.out.lt)
  replace EE := Lib.hid (EE.out.keep b6)
  clear BB
  have BB := BB'
  clear BB' b6
  have s6 : gt < w6.heap.size := N1.out.lt
  clear s4
  first | (refine hK.out _ _ ?_ (fun hHeld => ?_)) | (go_wp2_with fail; refine hK.out _ _ ?_ (fun hHeld => ?_))
  · (try dsimp only); exact ⟨FF.out.cell 0, FF.out.cell 1, FF.out.cell 2, LL.out⟩
  clear hK K
  try simp only [Act.put, List.setIfInBounds_toArray, List.set_cons_zero, List.set_cons_succ]
  refine rg_take (i := 1) (d := some 25) (l := #[true, true, false, true, true, true, false, false, false, false, false, false, true, true, false, false, false, true, true, false, false, false, true, true, false, false, false, false, false, true, false, false]) (fuel := 20) (v := ?_) rfl (by kernel_rfl) (by kernel_rfl) (by kernel_rfl) (by kernel_rfl) (by kernel_rfl) (fun _ _ _ h => h) (by kernel_rfl) ?_ (by assumption) ?_
  rotate_left 1
  · (intro wS hSw; (try dsimp only at hSw); go_simp; try with_reducible rfl)
  try simp only [Act.put, List.setIfInBounds_toArray, List.set_cons_zero, List.set_cons_succ]
  refine rg_more (S' := fun w' => Blk w' gt 75 #[.int .i64 0, .int .u8 0, .int .u8 0, .bool false] ∧ w'.cell? ⟨B, 0, none⟩ = some (.slice A1 n1 c1) ∧ w'.cell? ⟨B, 1, none⟩ = some (.slice A2 n2 c2) ∧ w'.cell? ⟨B, 2, none⟩ = some (.slice A3 n3 c3) ∧ Blk w' gl 80 #[.slice Ae n ce, .int .i64 0, .bool false, .bool false, .bool false, .bool false, .bool false]) (fun w h => h.2) _ _ _ _ ?_
  clear hHeld
  have hHeld : (fun w' : World => Blk w' gt 75 #[.int .i64 0, .int .u8 0, .int .u8 0, .bool false] ∧ w'.cell? ⟨B, 0, none⟩ = some (.slice A1 n1 c1) ∧ w'.cell? ⟨B, 1, none⟩ = some (.slice A2 n2 c2) ∧ w'.cell? ⟨B, 2, none⟩ = some (.slice A3 n3 c3) ∧ Blk w' gl 80 #[.slice Ae n ce, .int .i64 0, .bool false, .bool false, .bool false, .bool false, .bool false]) _ := ⟨N1.out, FF.out.cell 0, FF.out.cell 1, FF.out.cell 2, LL.out⟩
  refine rg_take (i := 2) (d := some 26) (l := #[true, true, true, true, true, true, false, false, false, false, false, false, true, true, false, false, false, true, true, false, false, false, true, true, false, false, false, false, false, true, false, false]) (fuel := 19) (v := .agg #[.int .i64 0, .int .u8 0, .int .u8 0, .bool false]) rfl (by kernel_rfl) (by kernel_rfl) (by kernel_rfl) (by kernel_rfl) (by kernel_rfl) (fun _ _ _ h => h) (by kernel_rfl) ?_ (by assumption) ?_
  · (intro wS hSw; (try dsimp only at hSw); exact exec_load_row 75 (.tmp 25) rfl gt rfl 75 #[.int .i64 0, .int .u8 0, .int .u8 0, .bool false] (0, 0) _ hSw.1 Tryz.underlying75 rfl (by kernel_rfl))
  try simp only [Act.put, List.setIfInBounds_toArray, List.set_cons_zero, List.set_cons_succ]
  refine rg_next (i := 6) (l := #[true, true, true, true, true, true, true, false, false, false, false, false, true, true, false, false, false, true, true, false, false, false, true, true, false, false, false, false, false, true, false, false]) (fuel := 18) (by kernel_rfl) rfl (by kernel_rfl) (by kernel_rfl) (fun K hK => ?_)
  go_simp
  (go_at_call 33)
  refine (lnew_any 0 w6).mono ?_
  rintro e w7 ⟨rfl, y1⟩
  have b7 : Below w6.heap.size w6 w7 := y1 ▸ (Below.refl _ _).alloc (Nat.le_refl _) _
  obtain ⟨gb, hgb⟩ : ∃ gb, w6.heap.size = gb := ⟨_, rfl⟩
  have N3 : Hid (Blk w7 gb 82 #[.int .u8 0]) := Lib.hid (by rw [y1]; exact Blk.new_ hgb.symm)
  clear y1
  simp only [hgb]
  have v3 : B + 1 < gb := by omega
  clear hgb
  have BB' := Lib.hid (BB.out.trans (b7.mono (by omega)))
  replace FF := Lib.hid (FF.out.below b7 FF.out.lt)
  replace GG := Lib.hid (GG.out.below b7 GG.out.lt)
  replace LL := Lib.hid (LL.out.below b7 LL.out.lt)
  replace EE := Lib.hid (EE.out.keep b7)
  replace N1 := Lib.hid (N1.out.below b7 N1.out.lt)
  clear BB
  have BB := BB'
  clear BB' b7
  have s7 : gb < w7.heap.size := N3.out.lt
  clear s6
  first | (refine hK.out _ _ ?_ (fun hHeld => ?_)) | (go_wp2_with fail; refine hK.out _ _ ?_ (fun hHeld => ?_))
  · (try dsimp only); exact ⟨N1.out, FF.out.cell 0, FF.out.cell 1, FF.out.cell 2, LL.out⟩
  clear hK K
  try simp only [Act.put, List.setIfInBounds_toArray, List.set_cons_zero, List.set_cons_succ]
  refine rg_take (i := 7) (d := some 31) (l := #[true, true, true, true, true, true, true, true, false, false, false, false, true, true, false, false, false, true, true, false, false, false, true, true, false, false, false, false, false, true, false, false]) (fuel := 17) (v := ?_) rfl (by kernel_rfl) (by kernel_rfl) (by kernel_rfl) (by kernel_rfl) (by kernel_rfl) (fun _ _ _ h => h) (by kernel_rfl) ?_ (by assumption) ?_
  rotate_left 1
  · (intro wS hSw; (try dsimp only at hSw); go_simp; try with_reducible rfl)
  try simp only [Act.put, List.setIfInBounds_toArray, List.set_cons_zero, List.set_cons_succ]
  refine rg_more (S' := fun w' => Blk w' gb 82 #[.int .u8 0] ∧ Blk w' gt 75 #[.int .i64 0, .int .u8 0, .int .u8 0, .bool false] ∧ w'.cell? ⟨B, 0, none⟩ = some (.slice A1 n1 c1) ∧ w'.cell? ⟨B, 1, none⟩ = some (.slice A2 n2 c2) ∧ w'.cell? ⟨B, 2, none⟩ = some (.slice A3 n3 c3) ∧ Blk w' gl 80 #[.slice Ae n ce, .int .i64 0, .bool false, .bool false, .bool false, .bool false, .bool false]) (fun w h => h.2) _ _ _ _ ?_
  clear hHeld
  have hHeld : (fun w' : World => Blk w' gb 82 #[.int .u8 0] ∧ Blk w' gt 75 #[.int .i64 0, .int .u8 0, .int .u8 0, .bool false] ∧ w'.cell? ⟨B, 0, none⟩ = some (.slice A1 n1 c1) ∧ w'.cell? ⟨B, 1, none⟩ = some (.slice A2 n2 c2) ∧ w'.cell? ⟨B, 2, none⟩ = some (.slice A3 n3 c3) ∧ Blk w' gl 80 #[.slice Ae n ce, .int .i64 0, .bool false, .bool false, .bool false, .bool false, .bool false]) _ := ⟨N3.out, N1.out, FF.out.cell 0, FF.out.cell 1, FF.out.cell 2, LL.out⟩
  refine rg_take (i := 8) (d := some 32) (l := #[true, true, true, true, true, true, true, true, true, false, false, false, true, true, false, false, false, true, true, false, false, false, true, true, false, false, false, false, false, true, false, false]) (fuel := 16) (v := .agg #[.int .u8 0]) rfl (by kernel_rfl) (by kernel_rfl) (by kernel_rfl) (by kernel_rfl) (by kernel_rfl) (fun _ _ _ h => h) (by kernel_rfl) ?_ (by assumption) ?_
  · (intro wS hSw; (try dsimp only at hSw); exact exec_load_row 82 (.tmp 31) rfl gb rfl 82 #[.int .u8 0] (0, 0) _ hSw.1 Tryz.underlying82 rfl (by kernel_rfl))
  try simp only [Act.put, List.setIfInBounds_toArray, List.set_cons_zero, List.set_cons_succ]
  refine rg_next (i := 9) (l := #[true, true, true, true, true, true, true, true, true, true, false, false, true, true, false, false, false, true, true, false, false, false, true, true, false, false, false, false, false, true, false, false]) (fuel := 15) (by kernel_rfl) rfl (by kernel_rfl) (by kernel_rfl) (fun K hK => ?_)
  go_simp
  (go_at_call 34)
  refine (qnew_any w7).mono ?_
  rintro e w8 ⟨rfl, y1, b8⟩
  obtain ⟨gi, hgi⟩ : ∃ gi, w7.heap.size = gi := ⟨_, rfl⟩
  have N4 : Hid (Blk w8 gi 86 #[.int .u8 0, .bool false]) := Lib.hid (hgi ▸ y1.1)
  simp only [hgi]
  have v4 : B + 1 < gi := by omega
  clear y1 hgi
  have BB' := Lib.hid (BB.out.trans (b8.mono (by omega)))
  replace FF := Lib.hid (FF.out.below b8 FF.out.lt)
  replace GG := Lib.hid (GG.out.below b8 GG.out.lt)
  replace LL := Lib.hid (LL.out.below b8 LL.out.lt)
  replace EE := Lib.hid (EE.out.keep b8)
  replace N1 := Lib.hid (N1.out.below b8 N1.out.lt)
  replace N3 := Lib.hid (N3.out.below b8 N3.out.lt)
  clear BB
  have BB := BB'
  clear BB' b8
  have s8 : gi < w8.heap.size := N4.out.lt
  clear s7
  first | (refine hK.out _ _ ?_ (fun hHeld => ?_)) | (go_wp2_with fail; refine hK.out _ _ ?_ (fun hHeld => ?_))
  · (try dsimp only); exact ⟨N3.out, N1.out, FF.out.cell 0, FF.out.cell 1, FF.out.cell 2, LL.out⟩
  clear hK K
  try simp only [Act.put, List.setIfInBounds_toArray, List.set_cons_zero, List.set_cons_succ]
  refine rg_take (i := 10) (d := some 34) (l := #[true, true, true, true, true, true, true, true, true, true, true, false, true, true, false, false, false, true, true, false, false, false, true, true, false, false, false, false, false, true, false, false]) (fuel := 14) (v := ?_) rfl (by kernel_rfl) (by kernel_rfl) (by kernel_rfl) (by kernel_rfl) (by kernel_rfl) (fun _ _ _ h => h) (by kernel_rfl) ?_ (by assumption) ?_
  rotate_left 1
  · (intro wS hSw; (try dsimp only at hSw); go_simp; try with_reducible rfl)
  try simp only [Act.put, List.setIfInBounds_toArray, List.set_cons_zero, List.set_cons_succ]
  refine rg_more (S' := fun w' => Blk w' gi 86 #[.int .u8 0, .bool false] ∧ Blk w' gb 82 #[.int .u8 0] ∧ Blk w' gt 75 #[.int .i64 0, .int .u8 0, .int .u8 0, .bool false] ∧ w'.cell? ⟨B, 0, none⟩ = some (.slice A1 n1 c1) ∧ w'.cell? ⟨B, 1, none⟩ = some (.slice A2 n2 c2) ∧ w'.cell? ⟨B, 2, none⟩ = some (.slice A3 n3 c3) ∧ Blk w' gl 80 #[.slice Ae n ce, .int .i64 0, .bool false, .bool false, .bool false, .bool false, .bool false]) (fun w h => h.2) _ _ _ _ ?_
  clear hHeld
  have hHeld : (fun w' : World => Blk w' gi 86 #[.int .u8 0, .bool false] ∧ Blk w' gb 82 #[.int .u8 0] ∧ Blk w' gt 75 #[.int .i64 0, .int .u8 0, .int .u8 0, .bool false] ∧ w'.cell? ⟨B, 0, none⟩ = some (.slice A1 n1 c1) ∧ w'.cell? ⟨B, 1, none⟩ = some (.slice A2 n2 c2) ∧ w'.cell? ⟨B, 2, none⟩ = some (.slice A3 n3 c3) ∧ Blk w' gl 80 #[.slice Ae n ce, .int .i64 0, .bool false, .bool false, .bool false, .bool false, .bool false]) _ := ⟨N4.out, N3.out, N1.out, FF.out.cell 0, FF.out.cell 1, FF.out.cell 2, LL.out⟩
  refine rg_take (i := 11) (d := some 35) (l := #[true, true, true, true, true, true, true, true, true, true, true, true, true, true, false, false, false, true, true, false, false, false, true, true, false, false, false, false, false, true, false, false]) (fuel := 13) (v := .agg #[.int .u8 0, .bool false]) rfl (by kernel_rfl) (by kernel_rfl) (by kernel_rfl) (by kernel_rfl) (by kernel_rfl) (fun _ _ _ h => h) (by kernel_rfl) ?_ (by assumption) ?_
  · (intro wS hSw; (try dsimp only at hSw); exact exec_load_row 86 (.tmp 34) rfl gi rfl 86 #[.int .u8 0, .bool false] (0, 0) _ hSw.1 Tryz.underlying86 rfl (by kernel_rfl))
  try simp only [Act.put, List.setIfInBounds_toArray, List.set_cons_zero, List.set_cons_succ]
  refine rg_next (i := 14) (l := #[true, true, true, true, true, true, true, true, true, true, true, true, true, true, true, false, false, true, true, false, false, false, true, true, false, false, false, false, false, true, false, false]) (fuel := 12) (by kernel_rfl) rfl (by kernel_rfl) (by kernel_rfl) (fun K hK => ?_)
  go_simp
  (go_at_call 35)
  refine (pnew_any A3 n3 c3 z3 HN3.out (by omega) (HR3.out.keep (by rw [HBB.out]; exact BB.out))).mono ?_
  rintro e w9 ⟨gp, bp, rfl, r1, r2, y1, b9⟩
  have N5 : Hid (Blk w9 gp 93 #[giveV bp, .int .i64 0, .int .u8 0, .int .i64 0]) := Lib.hid y1.1.1
  have M5 : Hid (Box w9 bp (n3 - 0) (fun i => z3 (0 + i))) := Lib.hid y1.1.2.2
  have v5 : B + 1 < gp ∧ B + 1 < bp := by omega
  have s9 : bp < w9.heap.size := PT.ltc y1
  clear y1
  have BB' := Lib.hid (BB.out.trans (b9.mono (by omega)))
  replace FF := Lib.hid (FF.out.below b9 FF.out.lt)
  replace GG := Lib.hid (GG.out.below b9 GG.out.lt)
  replace LL := Lib.hid (LL.out.below b9 LL.out.lt)
  replace EE := Lib.hid (EE.out.keep b9)
  replace N1 := Lib.hid (N1.out.below b9 N1.out.lt)
  replace N3 := Lib.hid (N3.out.below b9 N3.out.lt)
  replace N4 := Lib.hid (N4.out.below b9 N4.out.lt)
  clear BB
  have BB := BB'
  clear BB' b9
  clear s8 r1 r2
  first | (refine hK.out _ _ ?_ (fun hHeld => ?_)) | (go_wp2_with fail; refine hK.out _ _ ?_ (fun hHeld => ?_))
  · (try dsimp only); exact ⟨N4.out, N3.out, N1.out, FF.out.cell 0, FF.out.cell 1, FF.out.cell 2, LL.out⟩
  clear hK K
  try simp only [Act.put, List.setIfInBounds_toArray, List.set_cons_zero, List.set_cons_succ]
  refine rg_take (i := 15) (d := some 39) (l := #[true, true, true, true, true, true, true, true, true, true, true, true, true, true, true, true, false, true, true, false, false, false, true, true, false, false, false, false, false, true, false, false]) (fuel := 11) (v := ?_) rfl (by kernel_rfl) (by kernel_rfl) (by kernel_rfl) (by kernel_rfl) (by kernel_rfl) (fun _ _ _ h => h) (by kernel_rfl) ?_ (by assumption) ?_
  rotate_left 1
  · (intro wS hSw; (try dsimp only at hSw); go_simp; try with_reducible rfl)
  try simp only [Act.put, List.setIfInBounds_toArray, List.set_cons_zero, List.set_cons_succ]
  refine rg_more (S' := fun w' => Blk w' gp 93 #[giveV bp, .int .i64 0, .int .u8 0, .int .i64 0] ∧ Blk w' gi 86 #[.int .u8 0, .bool false] ∧ Blk w' gb 82 #[.int .u8 0] ∧ Blk w' gt 75 #[.int .i64 0, .int .u8 0, .int .u8 0, .bool false] ∧ w'.cell? ⟨B, 0, none⟩ = some (.slice A1 n1 c1) ∧ w'.cell? ⟨B, 1, none⟩ = some (.slice A2 n2 c2) ∧ w'.cell? ⟨B, 2, none⟩ = some (.slice A3 n3 c3) ∧ Blk w' gl 80 #[.slice Ae n ce, .int .i64 0, .bool false, .bool false, .bool false, .bool false, .bool false]) (fun w h => h.2) _ _ _ _ ?_
  clear hHeld
  have hHeld : (fun w' : World => Blk w' gp 93 #[giveV bp, .int .i64 0, .int .u8 0, .int .i64 0] ∧ Blk w' gi 86 #[.int .u8 0, .bool false] ∧ Blk w' gb 82 #[.int .u8 0] ∧ Blk w' gt 75 #[.int .i64 0, .int .u8 0, .int .u8 0, .bool false] ∧ w'.cell? ⟨B, 0, none⟩ = some (.slice A1 n1 c1) ∧ w'.cell? ⟨B, 1, none⟩ = some (.slice A2 n2 c2) ∧ w'.cell? ⟨B, 2, none⟩ = some (.slice A3 n3 c3) ∧ Blk w' gl 80 #[.slice Ae n ce, .int .i64 0, .bool false, .bool false, .bool false, .bool false, .bool false]) _ := ⟨N5.out, N4.out, N3.out, N1.out, FF.out.cell 0, FF.out.cell 1, FF.out.cell 2, LL.out⟩
  refine rg_take (i := 16) (d := some 40) (l := #[true, true, true, true, true, true, true, true, true, true, true, true, true, true, true, true, true, true, true, false, false, false, true, true, false, false, false, false, false, true, false, false]) (fuel := 10) (v := .agg #[giveV bp, .int .i64 0, .int .u8 0, .int .i64 0]) rfl (by kernel_rfl) (by kernel_rfl) (by kernel_rfl) (by kernel_rfl) (by kernel_rfl) (fun _ _ _ h => h) (by kernel_rfl) ?_ (by assumption) ?_
  · (intro wS hSw; (try dsimp only at hSw); exact exec_load_row 93 (.tmp 39) rfl gp rfl 93 #[giveV bp, .int .i64 0, .int .u8 0, .int .i64 0] (0, 0) _ hSw.1 Tryz.underlying93 rfl (by kernel_rfl))
  try simp only [Act.put, List.setIfInBounds_toArray, List.set_cons_zero, List.set_cons_succ]
  refine rg_next (i := 19) (l := #[true, true, true, true, true, true, true, true, true, true, true, true, true, true, true, true, true, true, true, true, false, false, true, true, false, false, false, false, false, true, false, false]) (fuel := 9) (by kernel_rfl) rfl (by kernel_rfl) (by kernel_rfl) (fun K hK => ?_)
  go_simp
  (go_at_call 36)
  refine (new_any A1 n1 c1 z1 HN1.out (by omega) (HR1.out.keep (by rw [HBB.out]; exact BB.out))).mono ?_
  rintro e w10 ⟨gv, bv, rfl, r1, r2, r3, r4, y1, b10⟩
  have N6 : Hid (Blk w10 gv 91 #[giveV bv, .int .i64 0]) := Lib.hid y1.1
  have M6 : Hid (Box w10 bv (n1 - 0) (fun i => z1 (0 + i))) := Lib.hid (by obtain ⟨_, v, h1, h2⟩ := y1; exact ⟨v, h1, by simpa using h2⟩)
  have v6 : B + 1 < gv ∧ B + 1 < bv ∧ bp < bv := by omega
  clear y1
  have BB' := Lib.hid (BB.out.trans (b10.mono (by omega)))
  replace FF := Lib.hid (FF.out.below b10 FF.out.lt)
  replace GG := Lib.hid (GG.out.below b10 GG.out.lt)
  replace LL := Lib.hid (LL.out.below b10 LL.out.lt)
  replace EE := Lib.hid (EE.out.keep b10)
  replace N1 := Lib.hid (N1.out.below b10 N1.out.lt)
  replace N3 := Lib.hid (N3.out.below b10 N3.out.lt)
  replace N4 := Lib.hid (N4.out.below b10 N4.out.lt)
  replace N5 := Lib.hid (N5.out.below b10 N5.out.lt)
  replace M5 := Lib.hid (M5.out.kp (Kp.of_below (L := []) b10) (fun y hy => by cases hy) (by simp))
  clear BB
  have BB := BB'
  clear BB' b10
  clear s9 r1 r2 r3
  first | (refine hK.out _ _ ?_ (fun hHeld => ?_)) | (go_wp2_with fail; refine hK.out _ _ ?_ (fun hHeld => ?_))
  · (try dsimp only); exact ⟨N5.out, N4.out, N3.out, N1.out, FF.out.cell 0, FF.out.cell 1, FF.out.cell 2, LL.out⟩
  clear hK K
  try simp only [Act.put, List.setIfInBounds_toArray, List.set_cons_zero, List.set_cons_succ]
  refine rg_take (i := 20) (d := some 44) (l := #[true, true, true, true, true, true, true, true, true, true, true, true, true, true, true, true, true, true, true, true, true, false, true, true, false, false, false, false, false, true, false, false]) (fuel := 8) (v := ?_) rfl (by kernel_rfl) (by kernel_rfl) (by kernel_rfl) (by kernel_rfl) (by kernel_rfl) (fun _ _ _ h => h) (by kernel_rfl) ?_ (by assumption) ?_
  rotate_left 1
  · (intro wS hSw; (try dsimp only at hSw); go_simp; try with_reducible rfl)
  try simp only [Act.put, List.setIfInBounds_toArray, List.set_cons_zero, List.set_cons_succ]
  refine rg_more (S' := fun w' => Blk w' gv 91 #[giveV bv, .int .i64 0] ∧ Blk w' gp 93 #[giveV bp, .int .i64 0, .int .u8 0, .int .i64 0] ∧ Blk w' gi 86 #[.int .u8 0, .bool false] ∧ Blk w' gb 82 #[.int .u8 0] ∧ Blk w' gt 75 #[.int .i64 0, .int .u8 0, .int .u8 0, .bool false] ∧ w'.cell? ⟨B, 0, none⟩ = some (.slice A1 n1 c1) ∧ w'.cell? ⟨B, 1, none⟩ = some (.slice A2 n2 c2) ∧ w'.cell? ⟨B, 2, none⟩ = some (.slice A3 n3 c3) ∧ Blk w' gl 80 #[.slice Ae n ce, .int .i64 0, .bool false, .bool false, .bool false, .bool false, .bool false]) (fun w h => h.2) _ _ _ _ ?_
  clear hHeld
  have hHeld : (fun w' : World => Blk w' gv 91 #[giveV bv, .int .i64 0] ∧ Blk w' gp 93 #[giveV bp, .int .i64 0, .int .u8 0, .int .i64 0] ∧ Blk w' gi 86 #[.int .u8 0, .bool false] ∧ Blk w' gb 82 #[.int .u8 0] ∧ Blk w' gt 75 #[.int .i64 0, .int .u8 0, .int .u8 0, .bool false] ∧ w'.cell? ⟨B, 0, none⟩ = some (.slice A1 n1 c1) ∧ w'.cell? ⟨B, 1, none⟩ = some (.slice A2 n2 c2) ∧ w'.cell? ⟨B, 2, none⟩ = some (.slice A3 n3 c3) ∧ Blk w' gl 80 #[.slice Ae n ce, .int .i64 0, .bool false, .bool false, .bool false, .bool false, .bool false]) _ := ⟨N6.out, N5.out, N4.out, N3.out, N1.out, FF.out.cell 0, FF.out.cell 1, FF.out.cell 2, LL.out⟩
  refine rg_take (i := 21) (d := some 45) (l := #[true, true, true, true, true, true, true, true, true, true, true, true, true, true, true, true, true, true, true, true, true, true, true, true, false, false, false, false, false, true, false, false]) (fuel := 7) (v := .agg #[giveV bv, .int .i64 0]) rfl (by kernel_rfl) (by kernel_rfl) (by kernel_rfl) (by kernel_rfl) (by kernel_rfl) (fun _ _ _ h => h) (by kernel_rfl) ?_ (by assumption) ?_
  · (intro wS hSw; (try dsimp only at hSw); exact exec_load_row 91 (.tmp 44) rfl gv rfl 91 #[giveV bv, .int .i64 0] (0, 0) _ hSw.1 Tryz.underlying91 rfl (by kernel_rfl))
  try simp only [Act.put, List.setIfInBounds_toArray, List.set_cons_zero, List.set_cons_succ]
  refine rg_next (i := 24) (l := #[true, true, true, true, true, true, true, true, true, true, true, true, true, true, true, true, true, true, true, true, true, true, true, true, true, false, false, false, false, true, false, false]) (fuel := 6) (by kernel_rfl) rfl (by kernel_rfl) (by kernel_rfl) (fun K hK => ?_)
  go_simp
  (go_at_call 36)
  refine (new_any A2 n2 c2 z2 HN2.out (by omega) (HR2.out.keep (by rw [HBB.out]; exact BB.out))).mono ?_
  rintro e w11 ⟨gc, bc, rfl, r1, r2, r3, r5, y1, b11⟩
  have N7 : Hid (Blk w11 gc 91 #[giveV bc, .int .i64 0]) := Lib.hid y1.1
  have M7 : Hid (Box w11 bc (n2 - 0) (fun i => z2 (0 + i))) := Lib.hid (by obtain ⟨_, v, h1, h2⟩ := y1; exact ⟨v, h1, by simpa using h2⟩)
  have v7 : B + 1 < gc ∧ B + 1 < bc ∧ bv < bc ∧ bp < bc := by omega
  clear y1
  have BB' := Lib.hid (BB.out.trans (b11.mono (by omega)))
  replace FF := Lib.hid (FF.out.below b11 FF.out.lt)
  replace GG := Lib.hid (GG.out.below b11 GG.out.lt)
  replace LL := Lib.hid (LL.out.below b11 LL.out.lt)
  replace EE := Lib.hid (EE.out.keep b11)
  replace N1 := Lib.hid (N1.out.below b11 N1.out.lt)
  replace N3 := Lib.hid (N3.out.below b11 N3.out.lt)
  replace N4 := Lib.hid (N4.out.below b11 N4.out.lt)
  replace N5 := Lib.hid (N5.out.below b11 N5.out.lt)
  replace N6 := Lib.hid (N6.out.below b11 N6.out.lt)
  replace M5 := Lib.hid (M5.out.kp (Kp.of_below (L := []) b11) (fun y hy => by cases hy) (by simp))
  replace M6 := Lib.hid (M6.out.kp (Kp.of_below (L := []) b11) (fun y hy => by cases hy) (by simp))
  clear BB
  have BB := BB'
  clear BB' b11
  clear r1 r2 r3
  first | (refine hK.out _ _ ?_ (fun hHeld => ?_)) | (go_wp2_with fail; refine hK.out _ _ ?_ (fun hHeld => ?_))
  · (try dsimp only); exact ⟨N6.out, N5.out, N4.out, N3.out, N1.out, FF.out.cell 0, FF.out.cell 1, FF.out.cell 2, LL.out⟩
  clear hK K
  try simp only [Act.put, List.setIfInBounds_toArray, List.set_cons_zero, List.set_cons_succ]
  refine rg_take (i := 25) (d := some 49) (l := #[true, true, true, true, true, true, true, true, true, true, true, true, true, true, true, true, true, true, true, true, true, true, true, true, true, true, false, false, false, true, false, false]) (fuel := 5) (v := ?_) rfl (by kernel_rfl) (by kernel_rfl) (by kernel_rfl) (by kernel_rfl) (by kernel_rfl) (fun _ _ _ h => h) (by kernel_rfl) ?_ (by assumption) ?_
  rotate_left 1
  · (intro wS hSw; (try dsimp only at hSw); go_simp; try with_reducible rfl)
  try simp only [Act.put, List.setIfInBounds_toArray, List.set_cons_zero, List.set_cons_succ]
  refine rg_more (S' := fun w' => Blk w' gc 91 #[giveV bc, .int .i64 0] ∧ Blk w' gv 91 #[giveV bv, .int .i64 0] ∧ Blk w' gp 93 #[giveV bp, .int .i64 0, .int .u8 0, .int .i64 0] ∧ Blk w' gi 86 #[.int .u8 0, .bool false] ∧ Blk w' gb 82 #[.int .u8 0] ∧ Blk w' gt 75 #[.int .i64 0, .int .u8 0, .int .u8 0, .bool false] ∧ w'.cell? ⟨B, 0, none⟩ = some (.slice A1 n1 c1) ∧ w'.cell? ⟨B, 1, none⟩ = some (.slice A2 n2 c2) ∧ w'.cell? ⟨B, 2, none⟩ = some (.slice A3 n3 c3) ∧ Blk w' gl 80 #[.slice Ae n ce, .int .i64 0, .bool false, .bool false, .bool false, .bool false, .bool false]) (fun w h => h.2) _ _ _ _ ?_
  clear hHeld
  have hHeld : (fun w' : World => Blk w' gc 91 #[giveV bc, .int .i64 0] ∧ Blk w' gv 91 #[giveV bv, .int .i64 0] ∧ Blk w' gp 93 #[giveV bp, .int .i64 0, .int .u8 0, .int .i64 0] ∧ Blk w' gi 86 #[.int .u8 0, .bool false] ∧ Blk w' gb 82 #[.int .u8 0] ∧ Blk w' gt 75 #[.int .i64 0, .int .u8 0, .int .u8 0, .bool false] ∧ w'.cell? ⟨B, 0, none⟩ = some (.slice A1 n1 c1) ∧ w'.cell? ⟨B, 1, none⟩ = some (.slice A2 n2 c2) ∧ w'.cell? ⟨B, 2, none⟩ = some (.slice A3 n3 c3) ∧ Blk w' gl 80 #[.slice Ae n ce, .int .i64 0, .bool false, .bool false, .bool false, .bool false, .bool false]) _ := ⟨N7.out, N6.out, N5.out, N4.out, N3.out, N1.out, FF.out.cell 0, FF.out.cell 1, FF.out.cell 2, LL.out⟩
  refine rg_take (i := 26) (d := some 50) (l := #[true, true, true, true, true, true, true, true, true, true, true, true, true, true, true, true, true, true, true, true, true, true, true, true, true, true, true, false, false, true, false, false]) (fuel := 4) (v := .agg #[giveV bc, .int .i64 0]) rfl (by kernel_rfl) (by kernel_rfl) (by kernel_rfl) (by kernel_rfl) (by kernel_rfl) (fun _ _ _ h => h) (by kernel_rfl) ?_ (by assumption) ?_
  · (intro wS hSw; (try dsimp only at hSw); exact exec_load_row 91 (.tmp 49) rfl gc rfl 91 #[giveV bc, .int .i64 0] (0, 0) _ hSw.1 Tryz.underlying91 rfl (by kernel_rfl))
  try simp only [Act.put, List.setIfInBounds_toArray, List.set_cons_zero, List.set_cons_succ]
  refine rg_take (i := 27) (d := some 51) (l := #[true, true, true, true, true, true, true, true, true, true, true, true, true, true, true, true, true, true, true, true, true, true, true, true, true, true, true, true, false, true, false, false]) (fuel := 3) (v := ?_) rfl (by kernel_rfl) (by kernel_rfl) (by kernel_rfl) (by kernel_rfl) (by kernel_rfl) (fun _ _ _ h => h) (by kernel_rfl) ?_ (by assumption) ?_
  rotate_left 1
  · (intro wS hSw; (try dsimp only at hSw); go_simp; try with_reducible rfl)
  try simp only [Act.put, List.setIfInBounds_toArray, List.set_cons_zero, List.set_cons_succ]
  unfold giveV
  refine rg_next (i := 28) (l := #[true, true, true, true, true, true, true, true, true, true, true, true, true, true, true, true, true, true, true, true, true, true, true, true, true, true, true, true, true, true, false, false]) (fuel := 2) (by kernel_rfl) rfl (by kernel_rfl) (by kernel_rfl) (fun K hK => ?_)
  go_simp
  have b12 : Below w11.heap.size w11 (w11.alloc (.cells (hpC ⟨n, es, n1, z1, n2, z2, n3, z3⟩ ⟨bv, bc, bp⟩ Ae ce Hp.new) 99)) := (Below.refl _ _).alloc (Nat.le_refl _) _
  have N8 := Lib.hid (Blk.new w11 99 (hpC ⟨n, es, n1, z1, n2, z2, n3, z3⟩ ⟨bv, bc, bp⟩ Ae ce Hp.new))
  have O8 : Hid (HPo (w11.alloc (.cells (hpC ⟨n, es, n1, z1, n2, z2, n3, z3⟩ ⟨bv, bc, bp⟩ Ae ce Hp.new) 99)) ⟨n, es, n1, z1, n2, z2, n3, z3⟩ ⟨bv, bc, bp⟩ Ae ce Hp.new) := Lib.hid ⟨EE.out.keep b12, M6.out.kp (Kp.of_below (L := []) b12) (fun y hy => by cases hy) (by simp), M7.out.kp (Kp.of_below (L := []) b12) (fun y hy => by cases hy) (by simp), M5.out.kp (Kp.of_below (L := []) b12) (fun y hy => by cases hy) (by simp), ⟨(by dsimp only; omega), (by dsimp only; omega), (by dsimp only; omega)⟩, Hp.new_ok _, HG.out⟩
  have v8 : B + 1 < w11.heap.size := (by have := N7.out.lt; omega)
  have B8 := Lib.hid (BB.out.trans (b12.mono (by omega)))
  have F8 := Lib.hid (FF.out.below b12 FF.out.lt)
  have G8 := Lib.hid (GG.out.below b12 GG.out.lt)
  have L8 := Lib.hid (LL.out.below b12 LL.out.lt)
  clear EE M5 M6 M7 HR1 HR2 HR3 HRE
  first | (refine hK.out _ _ ?_ (fun hHeld => ?_)) | (go_wp2_with fail; refine hK.out _ _ ?_ (fun hHeld => ?_))
  · (try dsimp only); exact ⟨N7.out.below b12 N7.out.lt, N6.out.below b12 N6.out.lt, N5.out.below b12 N5.out.lt, N4.out.below b12 N4.out.lt, N3.out.below b12 N3.out.lt, N1.out.below b12 N1.out.lt, F8.out.cell 0, F8.out.cell 1, F8.out.cell 2, L8.out⟩
  clear hK K
  try simp only [Act.put, List.setIfInBounds_toArray, List.set_cons_zero, List.set_cons_succ]
  refine rg_take (i := 30) (d := some 4) (l := #[true, true, true, true, true, true, true, true, true, true, true, true, true, true, true, true, true, true, true, true, true, true, true, true, true, true, true, true, true, true, true, false]) (fuel := 1) (v := ?_) rfl (by kernel_rfl) (by kernel_rfl) (by kernel_rfl) (by kernel_rfl) (by kernel_rfl) (fun _ _ _ h => h) (by kernel_rfl) ?_ (by assumption) ?_
  rotate_left 1
  · (intro wS hSw; (try dsimp only at hSw); go_simp; try with_reducible rfl)
  try simp only [Act.put, List.setIfInBounds_toArray, List.set_cons_zero, List.set_cons_succ]
  obtain ⟨w12, hw12⟩ : ∃ w12, w11.alloc (.cells (hpC ⟨n, es, n1, z1, n2, z2, n3, z3⟩ ⟨bv, bc, bp⟩ Ae ce Hp.new) 99) = w12 := ⟨_, rfl⟩
  rw [hw12] at N8 O8 B8 F8 G8 L8 b12
  simp only [hpC, hpL, hpX, Hp.new, Tm.new, upTo, giveV] at hw12
  first | rw [hw12] | (have hw13 := hw12; dsimp only at hw13; rw [hw13]) | (show wpAnyH _ _ _ _ _ _ _ _ (w11.alloc (.cells (hpC ⟨n, es, n1, z1, n2, z2, n3, z3⟩ ⟨bv, bc, bp⟩ Ae ce Hp.new) 99)); rw [show w11.alloc (.cells (hpC ⟨n, es, n1, z1, n2, z2, n3, z3⟩ ⟨bv, bc, bp⟩ Ae ce Hp.new) 99) = w12 from hw12])
  have e0 : w12.cell? ⟨B + 1, 0, none⟩ = some (.int .i64 0) := G8.out.cell 0
  have e1 : w12.cell? ⟨B + 1, 1, none⟩ = some (.int .i64 0) := G8.out.cell 1
  have f0 := G8.out.frozen 0
  have f1 := G8.out.frozen 1
  refine rg_next (i := 31) (l := #[true, true, true, true, true, true, true, true, true, true, true, true, true, true, true, true, true, true, true, true, true, true, true, true, true, true, true, true, true, true, true, true]) (fuel := 0) (by kernel_rfl) rfl (by kernel_rfl) (by kernel_rfl) (fun K hK => ?_)
  go_simp
  skip
  first | (refine hK.out _ _ ?_ (fun hHeld => ?_)) | (go_wp2_with fail; refine hK.out _ _ ?_ (fun hHeld => ?_))
  · (try dsimp only); exact ⟨(((N7.out.below b12 N7.out.lt).far (by simp; omega) _).far (by simp; omega) _), (((N6.out.below b12 N6.out.lt).far (by simp; omega) _).far (by simp; omega) _), (((N5.out.below b12 N5.out.lt).far (by simp; omega) _).far (by simp; omega) _), (((N4.out.below b12 N4.out.lt).far (by simp; omega) _).far (by simp; omega) _), (((N3.out.below b12 N3.out.lt).far (by simp; omega) _).far (by simp; omega) _), (((N1.out.below b12 N1.out.lt).far (by simp; omega) _).far (by simp; omega) _), ((F8.out.far (by simp) _).far (by simp) _).cell 0, ((F8.out.far (by simp) _).far (by simp) _).cell 1, ((F8.out.far (by simp) _).far (by simp) _).cell 2, ((L8.out.far (by simp; omega) _).far (by simp; omega) _)⟩
  clear hK K
  try simp only [Act.put, List.setIfInBounds_toArray, List.set_cons_zero, List.set_cons_succ]
  refine wpAnyH_done (by kernel_rfl) ?_ _
  have NB := (G8.out.set_ 0 (.int .i64 0)).set_ 1 (.int .i64 0)
  have KB : Kp [B + 1] w12 ((w12.setCell ⟨B + 1, 0, none⟩ (.int .i64 0)).setCell ⟨B + 1, 1, none⟩ (.int .i64 0)) := ((Kp.refl _ _).setCell (.inl (by simp)) _).setCell (.inl (by simp)) _
  have hlg : B + 1 ≠ w11.heap.size := by omega
  have H9 : Hid (HP ((w12.setCell ⟨B + 1, 0, none⟩ (.int .i64 0)).setCell ⟨B + 1, 1, none⟩ (.int .i64 0)) w11.heap.size ⟨n, es, n1, z1, n2, z2, n3, z3⟩ ⟨bv, bc, bp⟩ Hp.new) := Lib.hid (HP.kp (L := [B + 1]) ⟨Ae, ce, N8.out, O8.out⟩ KB (fun y hy => by obtain rfl := List.mem_singleton.1 hy; exact ⟨_, _, G8.out, by decide, by decide⟩) (by simp; omega))
  have B9 := Lib.hid ((B8.out.setCell (p := ⟨B + 1, 0, none⟩) (by simp) (.int .i64 0)).setCell (p := ⟨B + 1, 1, none⟩) (by simp) (.int .i64 0))
  simp only [List.setIfInBounds_toArray, List.set_cons_zero, List.set_cons_succ] at NB
  clear hHeld e0 e1 f0 f1
  have hvv : B ≤ w11.heap.size ∧ B ≤ bv ∧ B ≤ bc ∧ B ≤ bp := by omega
  generalize World.setCell (World.setCell _ _ _) _ _ = wz at *
  have z0 : wz.cell? ⟨B + 1, 0, none⟩ = some (.int .i64 0) := NB.cell 0
  have z1' : wz.cell? ⟨B + 1, 1, none⟩ = some (.int .i64 0) := NB.cell 1
  clear NB KB
  go_wp2_with fail
  refine bodyPost_ret (v := .tuple #[.pointer (some ⟨w11.heap.size, 0, none⟩), .agg #[.int .i64 0, .int .i64 0]]) (by simp [results, Tryz.results5, go_sem, z0, z1']) rfl ?_
  exact ⟨w11.heap.size, ⟨bv, bc, bp⟩, rfl, by rw [HBB.out]; exact hvv, H9.out, by rw [HBB.out]; exact B9.out⟩
end
end Go.Proofs.YtleofglnlfpoeaaGreat
namespace Go.Proofs.YtleofglnlfpoeaaGreat
open Go.RowKit
set_option linter.unusedVariables false
set_option linter.unusedSimpArgs false
set_option maxRecDepth 100000
def HpR (v : Value) (g : Nat) (d : Hd) (b : Hb) (y : Hp) (L : List Nat) (w : World) (e : Ending) (w' : World) : Prop := e = .returned v ∧ HP w' g d b y ∧ Kp L w w'
def Hp.to (d : Hd) (x : Hp) (t : Int) : Hp :=
  if t ≤ x.now then x else { x with tm := x.tm.goN (t - x.now).toNat, q := if 0 < x.tm.overN (t - x.now).toNat then ⟨x.q.d, true⟩ else x.q, s := pass d.es d.n t x.s, ro := roseTo d.es x.ro x.s (pass d.es d.n t x.s - x.s), now := t }
section
variable {w : World} {g : Nat} {d : Hd} {b : Hb} {x : Hp}
set_option maxHeartbeats 4000000 in
theorem hgo_any (h : HP w g d b x) (t : Int) (ht : t ≤ 9223372036854775807) :
    Calls Tryz.prog 110 #[.pointer (some ⟨g, 0, none⟩), .int .i64 t] w (HpR (.tuple #[]) g d b (x.to d t) [g] w) := by
  have c0 := h.nw.1
  have n0 : 0 ≤ x.now := h.ok.2.2.2.2.2
  have H := Lib.hid h
  clear h
  by_cases hle : t ≤ x.now
  · have e : x.to d t = x := by unfold Hp.to; rw [if_pos hle]
    rw [e]
    clear e
    go_enter Tryz.func110, Tryz.ntmps110
    go_wp2
    first | go_end0 | refine bodyPost_ret (results_none rfl _ _ _) rfl ?_
    exact ⟨rfl, H.out, Kp.refl _ _⟩
  · have hlt : x.now < t := by omega
    have e : x.to d t = { x with tm := x.tm.goN (t - x.now).toNat, q := if 0 < x.tm.overN (t - x.now).toNat then ⟨x.q.d, true⟩ else x.q, s := pass d.es d.n t x.s, ro := roseTo d.es x.ro x.s (pass d.es d.n t x.s - x.s), now := t } := by unfold Hp.to; rw [if_neg hle]
    have hd : t - x.now ≤ 9223372036854775807 := by omega
    have hwr : IntKind.i64.wrap (t - x.now) = t - x.now := IntWalk.i64_in _ (by omega)
    obtain ⟨cs, ht1, ht2⟩ := H.out.tmr
    have HT1 := Lib.hid ht1
    have HT2 := Lib.hid ht2
    obtain ⟨N, hN⟩ : ∃ N, x.tm.overN (t - x.now).toNat = N := ⟨_, rfl⟩
    rw [hN] at e
    have HN := Lib.hid hN
    have HE := Lib.hid e
    clear e ht1 ht2 hN
    go_enter Tryz.func110, Tryz.ntmps110
    go_wp2_with fail
    refine rg_begin (S := fun w' => w'.cell? ⟨g, 22, none⟩ = some (.int .i64 x.now)) 11 #[false, false, false, false, false, false, false, false, false, false, false] (by kernel_rfl) (by kernel_rfl) (by kernel_rfl) ?_ (fun hHeld => ?_)
    · exact c0
    refine rgt 0 (some 14) (v := ?_) rfl ?_ ?_
    rotate_left 1
    · (intro wS hSw; (try dsimp only at hSw); go_simp; try with_reducible rfl)
    refine rgt 1 (some 15) (v := ?_) rfl ?_ ?_
    rotate_left 1
    · (intro wS hSw; (try dsimp only at hSw); go_simp; try with_reducible rfl)
    refine rgt 2 (some 16) (v := ?_) rfl ?_ ?_
    rotate_left 1
    · (intro wS hSw; (try dsimp only at hSw); go_simp; try with_reducible rfl)
    refine rgt 3 (some 17) (v := ?_) rfl ?_ ?_
    rotate_left 1
    · (intro wS hSw; (try dsimp only at hSw); go_simp; try with_reducible rfl)
    refine rgt 4 (some 18) (v := ?_) rfl ?_ ?_
    rotate_left 1
    · (intro wS hSw; (try dsimp only at hSw); go_simp; try with_reducible rfl)
    refine rgt 5 (some 19) (v := ?_) rfl ?_ ?_
    rotate_left 1
    · (intro wS hSw; (try dsimp only at hSw); go_simp; try with_reducible rfl)
    refine rgt 6 (some 20) (v := ?_) rfl ?_ ?_
    rotate_left 1
    · (intro wS hSw; (try dsimp only at hSw); go_simp; try with_reducible rfl)
    refine rgt 7 (some 21) (v := ?_) rfl ?_ ?_
    rotate_left 1
    · (intro wS hSw; (try dsimp only at hSw); go_simp; try with_reducible rfl)
    refine rgt 8 (some 22) (v := ?_) rfl ?_ ?_
    rotate_left 1
    · (intro wS hSw; (try dsimp only at hSw); go_simp; try with_reducible rfl)
    try simp only [Act.put, List.setIfInBounds_toArray, List.set_cons_zero, List.set_cons_succ]
    try rw [hwr]
    refine rg_next (i := 9) (l := #[true, true, true, true, true, true, true, true, true, true, false]) (fuel := 1) (by kernel_rfl) rfl (by kernel_rfl) (by kernel_rfl) (fun K hK => ?_)
    go_simp
    (go_at_call 153)
    refine (tgo_any (HT1.out.kp (Kp.refl [] w).drew (by simp)) (t - x.now) hd).mono ?_
    rw [HN.out]
    rintro e w1 ⟨rfl, y1, y2⟩
    replace y2 : Kp [g] w w1 := ((Kp.refl [g] w).drew).trans y2 (by simp)
    have H1 := Lib.hid (HT2.out _ _ y1 y2)
    have K1 := Lib.hid y2
    have c1 := H1.out.nw.1
    dsimp only at c1
    clear y1 y2 c0 HT1 HT2
    first | (refine hK.out _ _ ?_ (fun hHeld => ?_)) | (go_wp2_with fail; refine hK.out _ _ ?_ (fun hHeld => ?_))
    · (try dsimp only); exact c1
    clear hK K
    refine rgt 10 (some 24) (v := ?_) rfl ?_ ?_
    rotate_left 1
    · (intro wS hSw; (try dsimp only at hSw); go_simp; try with_reducible rfl)
    try simp only [Act.put, List.setIfInBounds_toArray, List.set_cons_zero, List.set_cons_succ]
    refine wpAnyH_done (by kernel_rfl) ?_ _
    clear hHeld c1
    obtain ⟨y, hy⟩ : ∃ y : Hp, { x with tm := x.tm.goN (t - x.now).toNat, q := if 0 < N then ⟨x.q.d, true⟩ else x.q } = y := ⟨_, rfl⟩
    have HY := Lib.hid hy
    have fin : ∀ w2 w3, HP w2 g d b y → Kp [g] w w2 → HLnR (hpX b y) (.tuple #[]) g d.n d.es (pass d.es d.n t y.s) (roseTo d.es y.ro y.s (pass d.es d.n t y.s - y.s)) w2 (.returned (.tuple #[])) w3 →
        HP w3 g d b { y with s := pass d.es d.n t y.s, ro := roseTo d.es y.ro y.s (pass d.es d.n t y.s - y.s) } ∧ Kp [g] w w3 := fun w2 w3 h2 k2 h3 => by
      obtain ⟨_, h4, k4⟩ := h3
      exact ⟨h2.lns.2 _ _ _ h4 k4, k2.trans k4 (by simp)⟩
    have FIN := Lib.hid fin
    clear hy fin
    by_cases h0 : 0 < N
    · have hp : (0 : Int) < (N : Int) := by omega
      go_wp2_with fail
      obtain ⟨cs2, q1, q2⟩ := H1.out.irq
      have Q2 := Lib.hid q2
      refine (qover_any q1).mono ?_
      rintro e w2 ⟨rfl, y1, y2⟩
      have H2 : Hid (HP w2 g d b y) := Lib.hid (by have := Q2.out _ _ y1 y2; rw [← HY.out, if_pos h0]; exact this)
      have K2 := Lib.hid (K1.out.trans y2 (by simp))
      clear y1 y2 q1 q2 Q2 H1 K1
      go_wp2_with fail
      refine (hto_any H2.out.lns.1 H2.out.gd t).mono ?_
      rintro e w3 h3
      obtain rfl := h3.1
      have F := Lib.hid (FIN.out _ _ H2.out K2.out h3)
      clear h3 H2 K2 FIN
      obtain ⟨c2, f2, _⟩ := F.out.1.nw
      go_wp2
      first | go_end0 | refine bodyPost_ret (results_none rfl _ _ _) rfl ?_
      obtain ⟨r1, r2⟩ := F.out.1.nw.2.2 t (by omega)
      refine ⟨rfl, ?_, F.out.2.trans r2 (by simp)⟩
      rw [HE.out]
      have := HY.out
      subst this
      exact r1
    · have hp : ¬ (0 : Int) < (N : Int) := by omega
      have H2 : Hid (HP w1 g d b y) := Lib.hid (by have := H1.out; rw [← HY.out, if_neg h0]; exact this)
      have K2 := K1
      clear H1 K1
      go_wp2_with fail
      refine (hto_any H2.out.lns.1 H2.out.gd t).mono ?_
      rintro e w3 h3
      obtain rfl := h3.1
      have F := Lib.hid (FIN.out _ _ H2.out K2.out h3)
      clear h3 H2 K2 FIN
      obtain ⟨c2, f2, _⟩ := F.out.1.nw
      go_wp2
      first | go_end0 | refine bodyPost_ret (results_none rfl _ _ _) rfl ?_
      obtain ⟨r1, r2⟩ := F.out.1.nw.2.2 t (by omega)
      refine ⟨rfl, ?_, F.out.2.trans r2 (by simp)⟩
      rw [HE.out]
      have := HY.out
      subst this
      exact r1
end
end Go.Proofs.YtleofglnlfpoeaaGreat
