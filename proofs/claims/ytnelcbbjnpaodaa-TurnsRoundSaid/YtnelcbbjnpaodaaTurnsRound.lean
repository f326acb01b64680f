/-
  For every input TurnsRound returns true, and each argument reads behind the call as it read before. No conditions.
-/
import Derived.Test.YtnelcbbjnpaodaaRows
import Derived.Test.YtnelcbbjnpaodaaG3
import Derived.Test.YtnelcbbjnpaodaaTrn11
import Derived.Test.YtnelcbbjnpaodaaG27
namespace Go.Proofs.Ytnelcbbjnpaodaa.turnsRound
open Go.ChangeShapes Go.WideShapes Go.ChangeAt Go.RowKit
open Go.ChangeMaps (open_string)

set_option linter.unusedSimpArgs false
theorem tlen3 {α : Type} {l : List α} (h : l.length = 3) : ∃ a b c, l = [a, b, c] := by
  match l, h with
  | [a, b, c], _ => exact ⟨a, b, c, rfl⟩
theorem bns_cnv (a b : Nat → Int) {k : Nat} (hk : k < 4) : bns (cnv a b) (k * 2) = bns a (k * 2) * bns b (k * 2) - bns a (k * 2 + 1) * bns b (k * 2 + 1) ∧ bns (cnv a b) (k * 2 + 1) = bns a (k * 2) * bns b (k * 2 + 1) + bns a (k * 2 + 1) * bns b (k * 2) := by
  have : k = 0 ∨ k = 1 ∨ k = 2 ∨ k = 3 := by omega
  rcases this with rfl | rfl | rfl | rfl <;> constructor <;> simp only [bns, cnv, Nat.zero_mul, Nat.one_mul, Nat.zero_add, Nat.reduceMul, Nat.reduceAdd, Int.add_mul, Int.mul_add, Int.sub_mul, Int.mul_sub, Int.mul_zero, Int.zero_mul, Int.add_zero, Int.sub_zero, Int.zero_add, Int.zero_sub, Int.mul_neg, Int.neg_mul] <;> omega
theorem tzero8 (w : World) : (zeroValue 29).run Try.prog w = .ok (.agg #[.int .i64 (0), .int .i64 (0), .int .i64 (0), .int .i64 (0), .int .i64 (0), .int .i64 (0), .int .i64 (0), .int .i64 (0)]) w := (zero_of_info (show (Try.prog.info? 29).map (fun i => (i.zero, i.size)) = some (some (.agg #[.int .i64 (0), .int .i64 (0), .int .i64 (0), .int .i64 (0), .int .i64 (0), .int .i64 (0), .int .i64 (0), .int .i64 (0)]), 8) by kernel_rfl)).1 w
theorem cnv_bd {a b : Nat → Int} (ha : ∀ i, i < 4 → (a i).natAbs ≤ 262144) (hb : ∀ i, i < 4 → (b i).natAbs ≤ 262144) {n : Nat} (hn : n < 4) : (cnv a b n).natAbs ≤ 1099511627776 := by
  rw [← pout_cnv a b hn]
  have := pout_bd (a := a) (b := b) (M := 68719476736) (fun i k hi hk => by have := tmul_le (ha i hi) (hb k hk); omega) (i := 4) (by omega) n
  omega

set_option linter.unusedVariables false
set_option linter.unusedSimpArgs false
set_option maxRecDepth 100000 in
set_option maxHeartbeats 8000000 in
theorem walk (F : Nat → Int) (uF : ∀ i, (Lit.int .i64 (F i)).wf = true) (G : Nat → Int) (uG : ∀ i, (Lit.int .i64 (G i)).wf = true) (W : World) :
    Calls Try.prog 5 #[.agg (vArr 4 fun i => .int .i64 (F i)), .agg (vArr 4 fun i => .int .i64 (G i))] W fun e w' => e = .returned (.bool true) ∧ Below W.heap.size W w' := by
  show Calls Try.prog 5 #[.agg #[.int .i64 (F 0), .int .i64 (F 1), .int .i64 (F 2), .int .i64 (F 3)], .agg #[.int .i64 (G 0), .int .i64 (G 1), .int .i64 (G 2), .int .i64 (G 3)]] W _
  have HWF := Lib.hid uF
  have HWG := Lib.hid uG
  clear uF uG
  obtain ⟨E, hE⟩ : ∃ E, rndE F G = E := ⟨_, rfl⟩
  obtain ⟨V, hV⟩ : ∃ V, rndV F G = V := ⟨_, rfl⟩
  have HE := Lib.hid hE
  have HV := Lib.hid hV
  clear hE hV
  have q0 : ∀ w, (Op.equalIn 10000 24 (.agg #[.int .i64 (V 0), .int .i64 (V 1), .int .i64 (V 2), .int .i64 (V 3)]) (.agg #[.int .i64 (V 0), .int .i64 (V 1), .int .i64 (V 2), .int .i64 (V 3)])).run Try.prog w = .ok true w := fun w => by rw [teq4 V V w]; simp
  have HF0 : Blk ((W.alloc (.cells #[.int .i64 (F 0), .int .i64 (F 1), .int .i64 (F 2), .int .i64 (F 3)] 24)).alloc (.cells #[.int .i64 (G 0), .int .i64 (G 1), .int .i64 (G 2), .int .i64 (G 3)] 24)) W.heap.size 24 #[.int .i64 (F 0), .int .i64 (F 1), .int .i64 (F 2), .int .i64 (F 3)] := Blk.alloc (Blk.new_ rfl) _
  have HG0 : Blk ((W.alloc (.cells #[.int .i64 (F 0), .int .i64 (F 1), .int .i64 (F 2), .int .i64 (F 3)] 24)).alloc (.cells #[.int .i64 (G 0), .int .i64 (G 1), .int .i64 (G 2), .int .i64 (G 3)] 24)) (W.heap.size + 1) 24 #[.int .i64 (G 0), .int .i64 (G 1), .int .i64 (G 2), .int .i64 (G 3)] := Blk.new_ (by simp)
  have QB : Below W.heap.size W ((W.alloc (.cells #[.int .i64 (F 0), .int .i64 (F 1), .int .i64 (F 2), .int .i64 (F 3)] 24)).alloc (.cells #[.int .i64 (G 0), .int .i64 (G 1), .int .i64 (G 2), .int .i64 (G 3)] 24)) := ((Below.refl _ W).alloc (Nat.le_refl _) _).alloc (by simp) _
  obtain ⟨gF, hgF⟩ : ∃ h, W.heap.size = h := ⟨_, rfl⟩
  obtain ⟨gG, hgG⟩ : ∃ h, gF + 1 = h := ⟨_, rfl⟩
  rw [hgF] at HF0 HG0
  rw [hgG] at HG0
  generalize hW2 : (W.alloc (.cells #[.int .i64 (F 0), .int .i64 (F 1), .int .i64 (F 2), .int .i64 (F 3)] 24)).alloc (.cells #[.int .i64 (G 0), .int .i64 (G 1), .int .i64 (G 2), .int .i64 (G 3)] 24) = w2 at HF0 HG0 QB
  replace HF0 := Lib.hid HF0
  replace HG0 := Lib.hid HG0
  replace QB := Lib.hid QB
  go_enter Try.func5, Try.ntmps5
  go_upto_region 1 with fail
  clear hgF hgG hW2
  go_wp2_with fail
  refine (liveT_any _).mono ?_
  rintro e w0 ⟨rfl, b0⟩
  have HF0 := Lib.hid (HF0.out.below b0 HF0.out.lt)
  have HG0 := Lib.hid (HG0.out.below b0 HG0.out.lt)
  have QB := Lib.hid (QB.out.trans (b0.mono QB.out.size))
  clear b0
  have cgF0 : w0.cell? ⟨gF, 0, none⟩ = some (.int .i64 (F 0)) := HF0.out.cell 0
  have cgF1 : w0.cell? ⟨gF, 1, none⟩ = some (.int .i64 (F 1)) := HF0.out.cell 1
  have cgF2 : w0.cell? ⟨gF, 2, none⟩ = some (.int .i64 (F 2)) := HF0.out.cell 2
  have cgF3 : w0.cell? ⟨gF, 3, none⟩ = some (.int .i64 (F 3)) := HF0.out.cell 3
  have cgG0 : w0.cell? ⟨gG, 0, none⟩ = some (.int .i64 (G 0)) := HG0.out.cell 0
  have cgG1 : w0.cell? ⟨gG, 1, none⟩ = some (.int .i64 (G 1)) := HG0.out.cell 1
  have cgG2 : w0.cell? ⟨gG, 2, none⟩ = some (.int .i64 (G 2)) := HG0.out.cell 2
  have cgG3 : w0.cell? ⟨gG, 3, none⟩ = some (.int .i64 (G 3)) := HG0.out.cell 3
  go_wp2_with fail
  clear cgF0 cgF1 cgF2 cgF3 cgG0 cgG1 cgG2 cgG3
  refine (tround_any F G (fun i _ => HWF.out i) (fun i _ => HWG.out i) _).mono ?_
  rw [HE.out, HV.out, iArr_four]
  rintro e w3 ⟨rfl, b3⟩
  have KHF0 : Blk (w3.alloc (.cells #[.int .i64 (V 0), .int .i64 (V 1), .int .i64 (V 2), .int .i64 (V 3)] 24)) gF 24 #[.int .i64 (F 0), .int .i64 (F 1), .int .i64 (F 2), .int .i64 (F 3)] := (HF0.out.below b3 HF0.out.lt).alloc _
  have KHG0 : Blk (w3.alloc (.cells #[.int .i64 (V 0), .int .i64 (V 1), .int .i64 (V 2), .int .i64 (V 3)] 24)) gG 24 #[.int .i64 (G 0), .int .i64 (G 1), .int .i64 (G 2), .int .i64 (G 3)] := (HG0.out.below b3 HG0.out.lt).alloc _
  have KN : Blk (w3.alloc (.cells #[.int .i64 (V 0), .int .i64 (V 1), .int .i64 (V 2), .int .i64 (V 3)] 24)) w3.heap.size 24 #[.int .i64 (V 0), .int .i64 (V 1), .int .i64 (V 2), .int .i64 (V 3)] := Blk.new w3 _ _
  have KB : Below W.heap.size W (w3.alloc (.cells #[.int .i64 (V 0), .int .i64 (V 1), .int .i64 (V 2), .int .i64 (V 3)] 24)) := (QB.out.trans (b3.mono QB.out.size)).alloc (Nat.le_trans QB.out.size b3.size) _
  obtain ⟨gx, hgx⟩ : ∃ h, w3.heap.size = h := ⟨_, rfl⟩
  rw [hgx] at KN
  have HF0 := Lib.hid KHF0
  have HG0 := Lib.hid KHG0
  have Hgx := Lib.hid KN
  have QB := Lib.hid KB
  clear KHF0 KHG0 KN KB b3
  go_upto_region 4 with fail
  generalize World.alloc _ _ = v3 at *
  clear hgx
  have cgF0 : v3.cell? ⟨gF, 0, none⟩ = some (.int .i64 (F 0)) := HF0.out.cell 0
  have cgF1 : v3.cell? ⟨gF, 1, none⟩ = some (.int .i64 (F 1)) := HF0.out.cell 1
  have cgF2 : v3.cell? ⟨gF, 2, none⟩ = some (.int .i64 (F 2)) := HF0.out.cell 2
  have cgF3 : v3.cell? ⟨gF, 3, none⟩ = some (.int .i64 (F 3)) := HF0.out.cell 3
  have cgG0 : v3.cell? ⟨gG, 0, none⟩ = some (.int .i64 (G 0)) := HG0.out.cell 0
  have cgG1 : v3.cell? ⟨gG, 1, none⟩ = some (.int .i64 (G 1)) := HG0.out.cell 1
  have cgG2 : v3.cell? ⟨gG, 2, none⟩ = some (.int .i64 (G 2)) := HG0.out.cell 2
  have cgG3 : v3.cell? ⟨gG, 3, none⟩ = some (.int .i64 (G 3)) := HG0.out.cell 3
  go_wp2_with fail
  clear cgF0 cgF1 cgF2 cgF3 cgG0 cgG1 cgG2 cgG3
  refine (trround_any F G (fun i _ => HWF.out i) (fun i _ => HWG.out i) _).mono ?_
  rw [HE.out, HV.out, iArr_four]
  rintro e w4 ⟨rfl, b4⟩
  have KHF0 : Blk (w4.alloc (.cells #[.int .i64 (V 0), .int .i64 (V 1), .int .i64 (V 2), .int .i64 (V 3)] 24)) gF 24 #[.int .i64 (F 0), .int .i64 (F 1), .int .i64 (F 2), .int .i64 (F 3)] := (HF0.out.below b4 HF0.out.lt).alloc _
  have KHG0 : Blk (w4.alloc (.cells #[.int .i64 (V 0), .int .i64 (V 1), .int .i64 (V 2), .int .i64 (V 3)] 24)) gG 24 #[.int .i64 (G 0), .int .i64 (G 1), .int .i64 (G 2), .int .i64 (G 3)] := (HG0.out.below b4 HG0.out.lt).alloc _
  have KHgx : Blk (w4.alloc (.cells #[.int .i64 (V 0), .int .i64 (V 1), .int .i64 (V 2), .int .i64 (V 3)] 24)) gx 24 #[.int .i64 (V 0), .int .i64 (V 1), .int .i64 (V 2), .int .i64 (V 3)] := (Hgx.out.below b4 Hgx.out.lt).alloc _
  have KN : Blk (w4.alloc (.cells #[.int .i64 (V 0), .int .i64 (V 1), .int .i64 (V 2), .int .i64 (V 3)] 24)) w4.heap.size 24 #[.int .i64 (V 0), .int .i64 (V 1), .int .i64 (V 2), .int .i64 (V 3)] := Blk.new w4 _ _
  have KB : Below W.heap.size W (w4.alloc (.cells #[.int .i64 (V 0), .int .i64 (V 1), .int .i64 (V 2), .int .i64 (V 3)] 24)) := (QB.out.trans (b4.mono QB.out.size)).alloc (Nat.le_trans QB.out.size b4.size) _
  obtain ⟨gw, hgw⟩ : ∃ h, w4.heap.size = h := ⟨_, rfl⟩
  rw [hgw] at KN
  have HF0 := Lib.hid KHF0
  have HG0 := Lib.hid KHG0
  have Hgx := Lib.hid KHgx
  have Hgw := Lib.hid KN
  have QB := Lib.hid KB
  clear KHF0 KHG0 KHgx KN KB b4
  go_upto_region 5 with fail
  generalize World.alloc _ _ = v4 at *
  clear hgw
  have cgx0 : v4.cell? ⟨gx, 0, none⟩ = some (.int .i64 (V 0)) := Hgx.out.cell 0
  have cgx1 : v4.cell? ⟨gx, 1, none⟩ = some (.int .i64 (V 1)) := Hgx.out.cell 1
  have cgx2 : v4.cell? ⟨gx, 2, none⟩ = some (.int .i64 (V 2)) := Hgx.out.cell 2
  have cgx3 : v4.cell? ⟨gx, 3, none⟩ = some (.int .i64 (V 3)) := Hgx.out.cell 3
  have cgw0 : v4.cell? ⟨gw, 0, none⟩ = some (.int .i64 (V 0)) := Hgw.out.cell 0
  have cgw1 : v4.cell? ⟨gw, 1, none⟩ = some (.int .i64 (V 1)) := Hgw.out.cell 1
  have cgw2 : v4.cell? ⟨gw, 2, none⟩ = some (.int .i64 (V 2)) := Hgw.out.cell 2
  have cgw3 : v4.cell? ⟨gw, 3, none⟩ = some (.int .i64 (V 3)) := Hgw.out.cell 3
  by_cases h0 : E = 0
  · subst h0
    have hb : (∀ i, i < 4 → (F i).natAbs ≤ 262144) ∧ ∀ i, i < 4 → (G i).natAbs ≤ 262144 := by
      have he := HE.out
      unfold rndE at he
      cases hf : farB F 262144 4 with
      | true => rw [hf] at he; cases he
      | false =>
      cases hg : farB G 262144 4 with
      | true => rw [hf, hg] at he; cases he
      | false => exact ⟨fun i hi => by have := farB_not.1 hf i hi; omega, fun i hi => by have := farB_not.1 hg i hi; omega⟩
    have HBF := Lib.hid hb.1
    have HBG := Lib.hid hb.2
    have HVc : Hid (∀ i, i < 4 → V i = cnv F G i) := Lib.hid fun i _ => by rw [← HV.out]; unfold rndV; rw [if_pos HE.out]
    have HBV : Hid (∀ i, i < 4 → (V i).natAbs ≤ 1099511627776) := Lib.hid fun i hi => by rw [HVc.out i hi]; exact cnv_bd HBF.out HBG.out hi
    clear hb
    go_upto_region 9 with fail
    clear cgx0 cgx1 cgx2 cgx3 cgw0 cgw1 cgw2 cgw3
    refine rg_begin (S := fun w' => Blk w' gF 24 #[.int .i64 (F 0), .int .i64 (F 1), .int .i64 (F 2), .int .i64 (F 3)] ∧ Blk w' gG 24 #[.int .i64 (G 0), .int .i64 (G 1), .int .i64 (G 2), .int .i64 (G 3)] ∧ Blk w' gx 24 #[.int .i64 (V 0), .int .i64 (V 1), .int .i64 (V 2), .int .i64 (V 3)] ∧ Below W.heap.size W w') 12 #[false, false, false, false, false, false, false, false, false, false, false, false] (by kernel_rfl) (by kernel_rfl) (by kernel_rfl) ?_ (fun hHeld => ?_)
    · exact ⟨HF0.out.drew_, HG0.out.drew_, Hgx.out.drew_, QB.out.drew⟩
    refine rg_take (i := 0) (d := some 37) (l := #[true, false, false, false, false, false, false, false, false, false, false, false]) (fuel := 11) (v := .agg #[.int .i64 (F 0), .int .i64 (F 1), .int .i64 (F 2), .int .i64 (F 3)]) rfl (by kernel_rfl) (by kernel_rfl) (by kernel_rfl) (by kernel_rfl) (by kernel_rfl) (fun _ _ _ h => h) (by kernel_rfl) ?_ (by assumption) ?_
    · (intro wS hSw; (try dsimp only at hSw); exact exec_load_row 24 (.tmp 2) rfl gF rfl 24 #[.int .i64 (F 0), .int .i64 (F 1), .int .i64 (F 2), .int .i64 (F 3)] (0, 0) _ hSw.1 Try.underlying24 rfl (by kernel_rfl))
    try simp only [Act.put, List.setIfInBounds_toArray, List.set_cons_zero, List.set_cons_succ]
    refine rg_take (i := 2) (d := some 39) (l := #[true, false, true, false, false, false, false, false, false, false, false, false]) (fuel := 10) (v := .agg #[.int .i64 (G 0), .int .i64 (G 1), .int .i64 (G 2), .int .i64 (G 3)]) rfl (by kernel_rfl) (by kernel_rfl) (by kernel_rfl) (by kernel_rfl) (by kernel_rfl) (fun _ _ _ h => h) (by kernel_rfl) ?_ (by assumption) ?_
    · (intro wS hSw; (try dsimp only at hSw); exact exec_load_row 24 (.tmp 3) rfl gG rfl 24 #[.int .i64 (G 0), .int .i64 (G 1), .int .i64 (G 2), .int .i64 (G 3)] (0, 0) _ hSw.2.1 Try.underlying24 rfl (by kernel_rfl))
    try simp only [Act.put, List.setIfInBounds_toArray, List.set_cons_zero, List.set_cons_succ]
    refine rg_take (i := 4) (d := some 41) (l := #[true, false, true, false, true, false, false, false, false, false, false, false]) (fuel := 9) (v := .agg #[.int .i64 (V 0), .int .i64 (V 1), .int .i64 (V 2), .int .i64 (V 3)]) rfl (by kernel_rfl) (by kernel_rfl) (by kernel_rfl) (by kernel_rfl) (by kernel_rfl) (fun _ _ _ h => h) (by kernel_rfl) ?_ (by assumption) ?_
    · (intro wS hSw; (try dsimp only at hSw); exact exec_load_row 24 (.tmp 5) rfl gx rfl 24 #[.int .i64 (V 0), .int .i64 (V 1), .int .i64 (V 2), .int .i64 (V 3)] (0, 0) _ hSw.2.2.1 Try.underlying24 rfl (by kernel_rfl))
    try simp only [Act.put, List.setIfInBounds_toArray, List.set_cons_zero, List.set_cons_succ]
    have hS : ∀ w1 w2, (fun w' => Blk w' gF 24 #[.int .i64 (F 0), .int .i64 (F 1), .int .i64 (F 2), .int .i64 (F 3)] ∧ Blk w' gG 24 #[.int .i64 (G 0), .int .i64 (G 1), .int .i64 (G 2), .int .i64 (G 3)] ∧ Blk w' gx 24 #[.int .i64 (V 0), .int .i64 (V 1), .int .i64 (V 2), .int .i64 (V 3)] ∧ Below W.heap.size W w') w1 → Below w1.heap.size w1 w2 → (fun w' => Blk w' gF 24 #[.int .i64 (F 0), .int .i64 (F 1), .int .i64 (F 2), .int .i64 (F 3)] ∧ Blk w' gG 24 #[.int .i64 (G 0), .int .i64 (G 1), .int .i64 (G 2), .int .i64 (G 3)] ∧ Blk w' gx 24 #[.int .i64 (V 0), .int .i64 (V 1), .int .i64 (V 2), .int .i64 (V 3)] ∧ Below W.heap.size W w') w2 := fun w1 w2 h hb => ⟨h.1.below hb h.1.lt, h.2.1.below hb h.2.1.lt, h.2.2.1.below hb h.2.2.1.lt, h.2.2.2.trans (hb.mono h.2.2.2.size)⟩
    refine RgC.start (B := W.heap.size) (w0 := W) (fuel := 6) [⟨6, 9, 29, #[.int .i64 (0), .int .i64 (0), .int .i64 (0), .int .i64 (0), .int .i64 (0), .int .i64 (0), .int .i64 (0), .int .i64 (0)], undef⟩, ⟨7, 10, 29, #[.int .i64 (0), .int .i64 (0), .int .i64 (0), .int .i64 (0), .int .i64 (0), .int .i64 (0), .int .i64 (0), .int .i64 (0)], undef⟩, ⟨8, 11, 29, #[.int .i64 (0), .int .i64 (0), .int .i64 (0), .int .i64 (0), .int .i64 (0), .int .i64 (0), .int .i64 (0), .int .i64 (0)], undef⟩] ?_ (by kernel_rfl) (by rfl) rfl QB.out.drew QB.out.size (by assumption)
    refine RgC.call (fuel := 5) (j := 1) (d := 38) (V := fun v => v = .agg #[.int .i64 (bns F 0), .int .i64 (bns F 1), .int .i64 (bns F 2), .int .i64 (bns F 3), .int .i64 (bns F 4), .int .i64 (bns F 5), .int .i64 (bns F 6), .int .i64 (bns F 7)]) rfl rfl rfl (by kernel_rfl) (fun x hx => by simp only [List.mem_cons, List.not_mem_nil, or_false] at hx; rcases hx with rfl | rfl | rfl <;> exact AlOk.of rfl rfl rfl rfl tzero8 rfl) hS (by decide) (by decide) (by kernel_rfl) ?_ ?_
    · intro os wq hF hSq K hK
      obtain ⟨o0, o1, o2, rfl⟩ := tlen3 hF.1
      clear hF
      simp only [putO, Act.put, List.setIfInBounds_toArray, List.set_cons_zero, List.set_cons_succ] at hK ⊢
      generalize AlS.val _ o0 = v0 at *
      generalize AlS.val _ o1 = v1 at *
      generalize AlS.val _ o2 = v2 at *
      go_simp
      go_at_call 14
      refine (tbins_any F (fun i hi => by have := HBF.out i hi; omega) wq).mono ?_
      rintro e w1 ⟨rfl, b1⟩
      exact hK.out _ _ rfl b1
    rintro _ rfl
    refine RgC.call (fuel := 4) (j := 3) (d := 40) (V := fun v => v = .agg #[.int .i64 (bns G 0), .int .i64 (bns G 1), .int .i64 (bns G 2), .int .i64 (bns G 3), .int .i64 (bns G 4), .int .i64 (bns G 5), .int .i64 (bns G 6), .int .i64 (bns G 7)]) rfl rfl rfl (by kernel_rfl) (fun x hx => by simp only [List.mem_cons, List.not_mem_nil, or_false] at hx; rcases hx with rfl | rfl | rfl <;> exact AlOk.of rfl rfl rfl rfl tzero8 rfl) hS (by decide) (by decide) (by kernel_rfl) ?_ ?_
    · intro os wq hF hSq K hK
      obtain ⟨o0, o1, o2, rfl⟩ := tlen3 hF.1
      clear hF
      simp only [putO, Act.put, List.setIfInBounds_toArray, List.set_cons_zero, List.set_cons_succ] at hK ⊢
      generalize AlS.val _ o0 = v0 at *
      generalize AlS.val _ o1 = v1 at *
      generalize AlS.val _ o2 = v2 at *
      go_simp
      go_at_call 14
      refine (tbins_any G (fun i hi => by have := HBG.out i hi; omega) wq).mono ?_
      rintro e w1 ⟨rfl, b1⟩
      exact hK.out _ _ rfl b1
    rintro _ rfl
    refine RgC.call (fuel := 3) (j := 5) (d := 42) (V := fun v => v = .agg #[.int .i64 (bns V 0), .int .i64 (bns V 1), .int .i64 (bns V 2), .int .i64 (bns V 3), .int .i64 (bns V 4), .int .i64 (bns V 5), .int .i64 (bns V 6), .int .i64 (bns V 7)]) rfl rfl rfl (by kernel_rfl) (fun x hx => by simp only [List.mem_cons, List.not_mem_nil, or_false] at hx; rcases hx with rfl | rfl | rfl <;> exact AlOk.of rfl rfl rfl rfl tzero8 rfl) hS (by decide) (by decide) (by kernel_rfl) ?_ ?_
    · intro os wq hF hSq K hK
      obtain ⟨o0, o1, o2, rfl⟩ := tlen3 hF.1
      clear hF
      simp only [putO, Act.put, List.setIfInBounds_toArray, List.set_cons_zero, List.set_cons_succ] at hK ⊢
      generalize AlS.val _ o0 = v0 at *
      generalize AlS.val _ o1 = v1 at *
      generalize AlS.val _ o2 = v2 at *
      go_simp
      go_at_call 14
      refine (tbins_any V (fun i hi => by have := HBV.out i hi; omega) wq).mono ?_
      rintro e w1 ⟨rfl, b1⟩
      exact hK.out _ _ rfl b1
    rintro _ rfl
    refine RgC.fin (by kernel_rfl) (fun x hx => by simp only [List.mem_cons, List.not_mem_nil, or_false] at hx; rcases hx with rfl | rfl | rfl <;> exact AlOk.of rfl rfl rfl rfl tzero8 rfl) hS (by decide) (by decide) ?_
    intro gs w5 hF hS4
    obtain ⟨g0, g1, g2, rfl⟩ := tlen3 (l := gs) (by simpa using hF.1)
    obtain ⟨B0, l0⟩ := hF.2.1 0 _ g0 rfl rfl
    obtain ⟨B1, l1⟩ := hF.2.1 1 _ g1 rfl rfl
    obtain ⟨B2, l2⟩ := hF.2.1 2 _ g2 rfl rfl
    have n01 : g0 ≠ g1 := fun e => by
      have := hF.2.2.1 0 1 g0 rfl (by rw [e]; rfl)
      cases this
    have n02 : g0 ≠ g2 := fun e => by
      have := hF.2.2.1 0 2 g0 rfl (by rw [e]; rfl)
      cases this
    have n12 : g1 ≠ g2 := fun e => by
      have := hF.2.2.1 1 2 g1 rfl (by rw [e]; rfl)
      cases this
    dsimp only at B0 B1 B2
    clear hF
    have NE : Hid (∀ (x : Nat) (cs : Array Value) (g : Nat), Blk w5 x 24 cs → (g = g0 ∨ g = g1 ∨ g = g2) → x ≠ g) := Lib.hid fun x cs g hx hg => by
      rcases hg with rfl | rfl | rfl
      · exact hx.ne_ B0 (by decide)
      · exact hx.ne_ B1 (by decide)
      · exact hx.ne_ B2 (by decide)
    have HNE : Hid ((gF ≠ g0 ∧ gF ≠ g1 ∧ gF ≠ g2) ∧ (gG ≠ g0 ∧ gG ≠ g1 ∧ gG ≠ g2) ∧ gx ≠ g0 ∧ gx ≠ g1 ∧ gx ≠ g2) := Lib.hid ⟨⟨NE.out _ _ _ hS4.1 (.inl rfl), NE.out _ _ _ hS4.1 (.inr (.inl rfl)), NE.out _ _ _ hS4.1 (.inr (.inr rfl))⟩, ⟨NE.out _ _ _ hS4.2.1 (.inl rfl), NE.out _ _ _ hS4.2.1 (.inr (.inl rfl)), NE.out _ _ _ hS4.2.1 (.inr (.inr rfl))⟩, NE.out _ _ _ hS4.2.2.1 (.inl rfl), NE.out _ _ _ hS4.2.2.1 (.inr (.inl rfl)), NE.out _ _ _ hS4.2.2.1 (.inr (.inr rfl))⟩
    simp only [putO, markB, AlS.val, List.map_cons, List.map_nil, List.length_cons, List.length_nil, List.replicate_succ, List.replicate_zero, Act.put, List.setIfInBounds_toArray, List.set_cons_zero, List.set_cons_succ]
    have HB0 := Lib.hid B0
    have HB1 := Lib.hid B1
    have HB2 := Lib.hid B2
    have HS4 := Lib.hid hS4
    clear B0 B1 B2 NE hS4
    have c0 : w5.cell? ⟨g0, 0, none⟩ = some (.int .i64 0) := HB0.out.cell 0
    have f0 := HB0.out.frozen 0
    have c1 : w5.cell? ⟨g0, 1, none⟩ = some (.int .i64 0) := HB0.out.cell 1
    have f1 := HB0.out.frozen 1
    have c2 : w5.cell? ⟨g0, 2, none⟩ = some (.int .i64 0) := HB0.out.cell 2
    have f2 := HB0.out.frozen 2
    have c3 : w5.cell? ⟨g0, 3, none⟩ = some (.int .i64 0) := HB0.out.cell 3
    have f3 := HB0.out.frozen 3
    have c4 : w5.cell? ⟨g0, 4, none⟩ = some (.int .i64 0) := HB0.out.cell 4
    have f4 := HB0.out.frozen 4
    have c5 : w5.cell? ⟨g0, 5, none⟩ = some (.int .i64 0) := HB0.out.cell 5
    have f5 := HB0.out.frozen 5
    have c6 : w5.cell? ⟨g0, 6, none⟩ = some (.int .i64 0) := HB0.out.cell 6
    have f6 := HB0.out.frozen 6
    have c7 : w5.cell? ⟨g0, 7, none⟩ = some (.int .i64 0) := HB0.out.cell 7
    have f7 := HB0.out.frozen 7
    refine rg_next (i := 9) (l := #[true, true, true, true, true, true, true, true, true, true, false, false]) (fuel := 2) (by kernel_rfl) rfl (by kernel_rfl) (by kernel_rfl) (fun K hK => ?_)
    go_simp
    refine hK.out _ _ ?_ (fun hHeld => ?_)
    · exact ⟨HS4.out.1.far8 HNE.out.1.1 (fun j => .int .i64 (bns F j)), HS4.out.2.1.far8 HNE.out.2.1.1 (fun j => .int .i64 (bns F j)), HS4.out.2.2.1.far8 HNE.out.2.2.1 (fun j => .int .i64 (bns F j)), below8 HS4.out.2.2.2 l0 (fun j => .int .i64 (bns F j))⟩
    clear hK K c0 f0 c1 f1 c2 f2 c3 f3 c4 f4 c5 f5 c6 f6 c7 f7
    try simp only [Act.put, List.setIfInBounds_toArray, List.set_cons_zero, List.set_cons_succ]
    obtain ⟨w6, hw6⟩ : ∃ w', Go.Proofs.Ytnelcbbjnpaodaa.put8 w5 g0 (fun j => .int .i64 (bns F j)) = w' := ⟨_, rfl⟩
    have B0 : Blk w6 g0 29 #[.int .i64 (bns F 0), .int .i64 (bns F 1), .int .i64 (bns F 2), .int .i64 (bns F 3), .int .i64 (bns F 4), .int .i64 (bns F 5), .int .i64 (bns F 6), .int .i64 (bns F 7)] := hw6 ▸ HB0.out.put8 rfl (fun j => .int .i64 (bns F j))
    have B1 : Blk w6 g1 29 #[.int .i64 (0), .int .i64 (0), .int .i64 (0), .int .i64 (0), .int .i64 (0), .int .i64 (0), .int .i64 (0), .int .i64 (0)] := hw6 ▸ HB1.out.far8 (Ne.symm n01) (fun j => .int .i64 (bns F j))
    have B2 : Blk w6 g2 29 #[.int .i64 (0), .int .i64 (0), .int .i64 (0), .int .i64 (0), .int .i64 (0), .int .i64 (0), .int .i64 (0), .int .i64 (0)] := hw6 ▸ HB2.out.far8 (Ne.symm n02) (fun j => .int .i64 (bns F j))
    unfold Go.Proofs.Ytnelcbbjnpaodaa.put8 Go.Proofs.Ytnelcbbjnpaodaa.put4 at hw6
    rw [hw6] at hHeld ⊢
    have HS4 := Lib.hid hHeld
    have HB0 := Lib.hid B0
    have HB1 := Lib.hid B1
    have HB2 := Lib.hid B2
    clear B0 B1 B2 hw6 hHeld
    have c0 : w6.cell? ⟨g1, 0, none⟩ = some (.int .i64 0) := HB1.out.cell 0
    have f0 := HB1.out.frozen 0
    have c1 : w6.cell? ⟨g1, 1, none⟩ = some (.int .i64 0) := HB1.out.cell 1
    have f1 := HB1.out.frozen 1
    have c2 : w6.cell? ⟨g1, 2, none⟩ = some (.int .i64 0) := HB1.out.cell 2
    have f2 := HB1.out.frozen 2
    have c3 : w6.cell? ⟨g1, 3, none⟩ = some (.int .i64 0) := HB1.out.cell 3
    have f3 := HB1.out.frozen 3
    have c4 : w6.cell? ⟨g1, 4, none⟩ = some (.int .i64 0) := HB1.out.cell 4
    have f4 := HB1.out.frozen 4
    have c5 : w6.cell? ⟨g1, 5, none⟩ = some (.int .i64 0) := HB1.out.cell 5
    have f5 := HB1.out.frozen 5
    have c6 : w6.cell? ⟨g1, 6, none⟩ = some (.int .i64 0) := HB1.out.cell 6
    have f6 := HB1.out.frozen 6
    have c7 : w6.cell? ⟨g1, 7, none⟩ = some (.int .i64 0) := HB1.out.cell 7
    have f7 := HB1.out.frozen 7
    refine rg_next (i := 10) (l := #[true, true, true, true, true, true, true, true, true, true, true, false]) (fuel := 1) (by kernel_rfl) rfl (by kernel_rfl) (by kernel_rfl) (fun K hK => ?_)
    go_simp
    refine hK.out _ _ ?_ (fun hHeld => ?_)
    · exact ⟨HS4.out.1.far8 HNE.out.1.2.1 (fun j => .int .i64 (bns G j)), HS4.out.2.1.far8 HNE.out.2.1.2.1 (fun j => .int .i64 (bns G j)), HS4.out.2.2.1.far8 HNE.out.2.2.2.1 (fun j => .int .i64 (bns G j)), below8 HS4.out.2.2.2 l1 (fun j => .int .i64 (bns G j))⟩
    clear hK K c0 f0 c1 f1 c2 f2 c3 f3 c4 f4 c5 f5 c6 f6 c7 f7
    try simp only [Act.put, List.setIfInBounds_toArray, List.set_cons_zero, List.set_cons_succ]
    obtain ⟨w7, hw7⟩ : ∃ w', Go.Proofs.Ytnelcbbjnpaodaa.put8 w6 g1 (fun j => .int .i64 (bns G j)) = w' := ⟨_, rfl⟩
    have B0 : Blk w7 g0 29 #[.int .i64 (bns F 0), .int .i64 (bns F 1), .int .i64 (bns F 2), .int .i64 (bns F 3), .int .i64 (bns F 4), .int .i64 (bns F 5), .int .i64 (bns F 6), .int .i64 (bns F 7)] := hw7 ▸ HB0.out.far8 n01 (fun j => .int .i64 (bns G j))
    have B1 : Blk w7 g1 29 #[.int .i64 (bns G 0), .int .i64 (bns G 1), .int .i64 (bns G 2), .int .i64 (bns G 3), .int .i64 (bns G 4), .int .i64 (bns G 5), .int .i64 (bns G 6), .int .i64 (bns G 7)] := hw7 ▸ HB1.out.put8 rfl (fun j => .int .i64 (bns G j))
    have B2 : Blk w7 g2 29 #[.int .i64 (0), .int .i64 (0), .int .i64 (0), .int .i64 (0), .int .i64 (0), .int .i64 (0), .int .i64 (0), .int .i64 (0)] := hw7 ▸ HB2.out.far8 (Ne.symm n12) (fun j => .int .i64 (bns G j))
    unfold Go.Proofs.Ytnelcbbjnpaodaa.put8 Go.Proofs.Ytnelcbbjnpaodaa.put4 at hw7
    rw [hw7] at hHeld ⊢
    have HS4 := Lib.hid hHeld
    have HB0 := Lib.hid B0
    have HB1 := Lib.hid B1
    have HB2 := Lib.hid B2
    clear B0 B1 B2 hw7 hHeld
    have c0 : w7.cell? ⟨g2, 0, none⟩ = some (.int .i64 0) := HB2.out.cell 0
    have f0 := HB2.out.frozen 0
    have c1 : w7.cell? ⟨g2, 1, none⟩ = some (.int .i64 0) := HB2.out.cell 1
    have f1 := HB2.out.frozen 1
    have c2 : w7.cell? ⟨g2, 2, none⟩ = some (.int .i64 0) := HB2.out.cell 2
    have f2 := HB2.out.frozen 2
    have c3 : w7.cell? ⟨g2, 3, none⟩ = some (.int .i64 0) := HB2.out.cell 3
    have f3 := HB2.out.frozen 3
    have c4 : w7.cell? ⟨g2, 4, none⟩ = some (.int .i64 0) := HB2.out.cell 4
    have f4 := HB2.out.frozen 4
    have c5 : w7.cell? ⟨g2, 5, none⟩ = some (.int .i64 0) := HB2.out.cell 5
    have f5 := HB2.out.frozen 5
    have c6 : w7.cell? ⟨g2, 6, none⟩ = some (.int .i64 0) := HB2.out.cell 6
    have f6 := HB2.out.frozen 6
    have c7 : w7.cell? ⟨g2, 7, none⟩ = some (.int .i64 0) := HB2.out.cell 7
    have f7 := HB2.out.frozen 7
    refine rg_next (i := 11) (l := #[true, true, true, true, true, true, true, true, true, true, true, true]) (fuel := 0) (by kernel_rfl) rfl (by kernel_rfl) (by kernel_rfl) (fun K hK => ?_)
    go_simp
    refine hK.out _ _ ?_ (fun hHeld => ?_)
    · exact ⟨HS4.out.1.far8 HNE.out.1.2.2 (fun j => .int .i64 (bns V j)), HS4.out.2.1.far8 HNE.out.2.1.2.2 (fun j => .int .i64 (bns V j)), HS4.out.2.2.1.far8 HNE.out.2.2.2.2 (fun j => .int .i64 (bns V j)), below8 HS4.out.2.2.2 l2 (fun j => .int .i64 (bns V j))⟩
    clear hK K c0 f0 c1 f1 c2 f2 c3 f3 c4 f4 c5 f5 c6 f6 c7 f7
    try simp only [Act.put, List.setIfInBounds_toArray, List.set_cons_zero, List.set_cons_succ]
    obtain ⟨w8, hw8⟩ : ∃ w', Go.Proofs.Ytnelcbbjnpaodaa.put8 w7 g2 (fun j => .int .i64 (bns V j)) = w' := ⟨_, rfl⟩
    have B0 : Blk w8 g0 29 #[.int .i64 (bns F 0), .int .i64 (bns F 1), .int .i64 (bns F 2), .int .i64 (bns F 3), .int .i64 (bns F 4), .int .i64 (bns F 5), .int .i64 (bns F 6), .int .i64 (bns F 7)] := hw8 ▸ HB0.out.far8 n02 (fun j => .int .i64 (bns V j))
    have B1 : Blk w8 g1 29 #[.int .i64 (bns G 0), .int .i64 (bns G 1), .int .i64 (bns G 2), .int .i64 (bns G 3), .int .i64 (bns G 4), .int .i64 (bns G 5), .int .i64 (bns G 6), .int .i64 (bns G 7)] := hw8 ▸ HB1.out.far8 n12 (fun j => .int .i64 (bns V j))
    have B2 : Blk w8 g2 29 #[.int .i64 (bns V 0), .int .i64 (bns V 1), .int .i64 (bns V 2), .int .i64 (bns V 3), .int .i64 (bns V 4), .int .i64 (bns V 5), .int .i64 (bns V 6), .int .i64 (bns V 7)] := hw8 ▸ HB2.out.put8 rfl (fun j => .int .i64 (bns V j))
    unfold Go.Proofs.Ytnelcbbjnpaodaa.put8 Go.Proofs.Ytnelcbbjnpaodaa.put4 at hw8
    rw [hw8] at hHeld ⊢
    have HS4 := Lib.hid hHeld
    have HB0 := Lib.hid B0
    have HB1 := Lib.hid B1
    have HB2 := Lib.hid B2
    clear B0 B1 B2 hw8 hHeld
    have QB := Lib.hid HS4.out.2.2.2
    clear HS4 HNE HF0 HG0 Hgx Hgw hS n01 n02 n12
    refine wpAnyH_done (by kernel_rfl) ?_ _
    go_wp2_with fail
    go_loopw [12] (fun i wr => ∃ k : Nat, k ≤ 4 ∧ i = .int .i64 k ∧ Blk wr g0 29 #[.int .i64 (bns F 0), .int .i64 (bns F 1), .int .i64 (bns F 2), .int .i64 (bns F 3), .int .i64 (bns F 4), .int .i64 (bns F 5), .int .i64 (bns F 6), .int .i64 (bns F 7)] ∧ Blk wr g1 29 #[.int .i64 (bns G 0), .int .i64 (bns G 1), .int .i64 (bns G 2), .int .i64 (bns G 3), .int .i64 (bns G 4), .int .i64 (bns G 5), .int .i64 (bns G 6), .int .i64 (bns G 7)] ∧ Blk wr g2 29 #[.int .i64 (bns V 0), .int .i64 (bns V 1), .int .i64 (bns V 2), .int .i64 (bns V 3), .int .i64 (bns V 4), .int .i64 (bns V 5), .int .i64 (bns V 6), .int .i64 (bns V 7)] ∧ Below W.heap.size W wr) (fun i _ => 4 - (intOf i).toNat)
    case atStart => exact ⟨0, by omega, rfl, HB0.out, HB1.out, HB2.out, QB.out⟩
    case round =>
      clear HB0 HB1 HB2 QB
      obtain ⟨k, hk, rfl, hp, hq, hr, hB⟩ := hrel
      have HB0 := Lib.hid hp
      have HB1 := Lib.hid hq
      have HB2 := Lib.hid hr
      have QB := Lib.hid hB
      clear hB
      by_cases hlt : k < 4
      · have i1 : (k : Int) < 4 := by omega
        have i2 : (0 : Int) ≤ (k : Int) := by omega
        obtain ⟨e0, e1⟩ := bns_cnv F G hlt
        have hp0 := bns_of_sum (f := F) (M := 1048576) (by have := HBF.out 0 (by decide); have := HBF.out 1 (by decide); have := HBF.out 2 (by decide); have := HBF.out 3 (by decide); omega)
        have hq0 := bns_of_sum (f := G) (M := 1048576) (by have := HBG.out 0 (by decide); have := HBG.out 1 (by decide); have := HBG.out 2 (by decide); have := HBG.out 3 (by decide); omega)
        have t0 := tmul_le (hp0 (k * 2)) (hq0 (k * 2))
        have t1 := tmul_le (hp0 (k * 2 + 1)) (hq0 (k * 2 + 1))
        have t2 := tmul_le (hp0 (k * 2)) (hq0 (k * 2 + 1))
        have t3 := tmul_le (hp0 (k * 2 + 1)) (hq0 (k * 2))
        rw [← bns_congr HVc.out] at e0 e1
        clear hp0 hq0
        have cp0 : wr.cell? ⟨g0, k * 2, none⟩ = some (.int .i64 (bns F (k * 2))) := by rw [hp.cell, show (#[.int .i64 (bns F 0), .int .i64 (bns F 1), .int .i64 (bns F 2), .int .i64 (bns F 3), .int .i64 (bns F 4), .int .i64 (bns F 5), .int .i64 (bns F 6), .int .i64 (bns F 7)] : Array Value) = vArr 8 (bnV F) from rfl, vArr_at 8 _ _ (by omega)]; rfl
        have cp1 : wr.cell? ⟨g0, k * 2 + 1, none⟩ = some (.int .i64 (bns F (k * 2 + 1))) := by rw [hp.cell, show (#[.int .i64 (bns F 0), .int .i64 (bns F 1), .int .i64 (bns F 2), .int .i64 (bns F 3), .int .i64 (bns F 4), .int .i64 (bns F 5), .int .i64 (bns F 6), .int .i64 (bns F 7)] : Array Value) = vArr 8 (bnV F) from rfl, vArr_at 8 _ _ (by omega)]; rfl
        have cq0 : wr.cell? ⟨g1, k * 2, none⟩ = some (.int .i64 (bns G (k * 2))) := by rw [hq.cell, show (#[.int .i64 (bns G 0), .int .i64 (bns G 1), .int .i64 (bns G 2), .int .i64 (bns G 3), .int .i64 (bns G 4), .int .i64 (bns G 5), .int .i64 (bns G 6), .int .i64 (bns G 7)] : Array Value) = vArr 8 (bnV G) from rfl, vArr_at 8 _ _ (by omega)]; rfl
        have cq1 : wr.cell? ⟨g1, k * 2 + 1, none⟩ = some (.int .i64 (bns G (k * 2 + 1))) := by rw [hq.cell, show (#[.int .i64 (bns G 0), .int .i64 (bns G 1), .int .i64 (bns G 2), .int .i64 (bns G 3), .int .i64 (bns G 4), .int .i64 (bns G 5), .int .i64 (bns G 6), .int .i64 (bns G 7)] : Array Value) = vArr 8 (bnV G) from rfl, vArr_at 8 _ _ (by omega)]; rfl
        have cr0 : wr.cell? ⟨g2, k * 2, none⟩ = some (.int .i64 (bns V (k * 2))) := by rw [hr.cell, show (#[.int .i64 (bns V 0), .int .i64 (bns V 1), .int .i64 (bns V 2), .int .i64 (bns V 3), .int .i64 (bns V 4), .int .i64 (bns V 5), .int .i64 (bns V 6), .int .i64 (bns V 7)] : Array Value) = vArr 8 (bnV V) from rfl, vArr_at 8 _ _ (by omega)]; rfl
        have cr1 : wr.cell? ⟨g2, k * 2 + 1, none⟩ = some (.int .i64 (bns V (k * 2 + 1))) := by rw [hr.cell, show (#[.int .i64 (bns V 0), .int .i64 (bns V 1), .int .i64 (bns V 2), .int .i64 (bns V 3), .int .i64 (bns V 4), .int .i64 (bns V 5), .int .i64 (bns V 6), .int .i64 (bns V 7)] : Array Value) = vArr 8 (bnV V) from rfl, vArr_at 8 _ _ (by omega)]; rfl
        clear hp hq hr
        rw [e0] at cr0
        rw [e1] at cr1
        clear e0 e1
        generalize bns F (k * 2) = p0 at *
        generalize bns F (k * 2 + 1) = p1 at *
        generalize bns G (k * 2) = q0' at *
        generalize bns G (k * 2 + 1) = q1' at *
        obtain ⟨a, ha⟩ : ∃ x, p0 * q0' = x := ⟨_, rfl⟩
        obtain ⟨b, hb⟩ : ∃ x, p1 * q1' = x := ⟨_, rfl⟩
        obtain ⟨c, hc⟩ : ∃ x, p0 * q1' = x := ⟨_, rfl⟩
        obtain ⟨d, hd⟩ : ∃ x, p1 * q0' = x := ⟨_, rfl⟩
        rw [ha] at t0 cr0
        rw [hb] at t1 cr0
        rw [hc] at t2 cr1
        rw [hd] at t3 cr1
        have u0 : -1099511627776 ≤ a ∧ a ≤ 1099511627776 := by omega
        have u1 : -1099511627776 ≤ b ∧ b ≤ 1099511627776 := by omega
        have u2 : -1099511627776 ≤ c ∧ c ≤ 1099511627776 := by omega
        have u3 : -1099511627776 ≤ d ∧ d ≤ 1099511627776 := by omega
        have m1 : ((a - b) != (a - b)) = false := by simp
        have m2 : ((c + d) != (c + d)) = false := by simp
        clear t0 t1 t2 t3
        go_wp2_with fail
        go_quiet (fail)
        go_wp2_with fail
        go_roundw
        case rel => exact ⟨k + 1, by omega, by go_num, HB0.out, HB1.out, HB2.out, below_like QB.out rfl rfl rfl rfl⟩
        case measure => simp [intOf]; omega
      · have i1 : ¬ (k : Int) < 4 := by omega
        obtain rfl : k = 4 := by omega
        clear hp hq hr
        go_wp2_with fail
        go_ret
        exact ⟨rfl, QB.out⟩
  have n0 : (E != 0) = true := by simpa using h0
  go_wp2_with fail
  go_ret
  exact ⟨rfl, QB.out⟩

theorem own : ownKnob Try.prog.godebug = none := by kernel_rfl
theorem laidOut : laidOutB Try.prog = true := by kernel_rfl
set_option maxRecDepth 100000 in
theorem lifted (os : Os) (started : os.Started) (H : Type) (enc : TypeId × Value → H) :
    ReturnsInHanded {} Try.checked os 5 .any (Rows.turnsRoundSpec.pre6 enc Try.prog Try.f5 Rows.turnsRoundRow.domain false) (Rows.turnsRoundSpec.post enc Try.prog Try.f5 false true false false) := by
  refine returnsInHanded_of_change (C := Try.checked) own started (by kernel_rfl) Try.func5
    (ChangeSpec.witness6 (enc := enc) (C := Try.checked) false ⟨#[], #[.agg #[.int .i64 0, .int .i64 0, .int .i64 0, .int .i64 0], .agg #[.int .i64 0, .int .i64 0, .int .i64 0, .int .i64 0]], []⟩ 8 (by kernel_rfl) (by kernel_rfl) (by kernel_rfl) (by kernel_rfl)) ?_
  intro W base args ds gs before hval0 hW _ _
  have hval : ∀ (j : Nat) t v, Try.f5.params[j]? = some t → args[j]? = some v → Value.okWide Try.prog W .any base t v := hval0
  have hW' := hW
  obtain ⟨p, q, hA0, hV, rfl, _, _⟩ := hW
  have hA : DataW.TrodAll enc Try.prog W 0 (fun _ => true) true Try.f5.params.toList args.toList ds p := hA0
  rw [Try.params5] at hA hval
  obtain ⟨v0, vs0, d0, ds0, p0, q0, hargs, rfl, rfl, h0, r0⟩ := trodAll_cons hA
  obtain ⟨v1, vs1, d1, ds1, p1, q1, rfl, rfl, rfl, h1, r1⟩ := trodAll_cons r0
  obtain ⟨rfl, rfl, rfl⟩ := trodAll_nil r1
  obtain rfl : args = #[v0, v1] := by cases args; simp_all
  obtain ⟨rfl, rfl⟩ := trodVars_none hV
  obtain ⟨z0, rfl, u0⟩ := array_ints_v Try.underlying24 Try.underlying3 (by kernel_rfl) (by kernel_rfl) (hval 0 24 v0 rfl rfl) h0
  obtain ⟨z1, rfl, u1⟩ := array_ints_v Try.underlying24 Try.underlying3 (by kernel_rfl) (by kernel_rfl) (hval 1 24 v1 rfl rfl) h1
  clear hA0 hval0
  refine (walk z0 u0 z1 u1 W).mono fun e W' ⟨he, hg⟩ => ?_
  subst he
  exact ⟨_, rfl, law_post rfl Try.underlying4 laidOut (by kernel_rfl) rfl hW' rfl hg⟩

theorem over : Rows.turnsRoundRow.holds Try.pinned (OpenSpec.ofChange Rows.turnsRoundSpec) :=
  OpenClaim.holds_of_wide 5 Try.f5 rfl rfl rfl rfl rfl rfl rfl ⟨rfl, rfl, rfl, rfl, rfl⟩ rfl rfl rfl rfl rfl (by kernel_rfl) Try.func5 (by kernel_rfl)
    (of_decide_eq_true (by kernel_rfl)) (by unfold Func.isWrapper; first | (rw [if_pos (by decide +kernel)]; kernel_rfl) | (rw [if_neg (by decide +kernel)]; exact ⟨rfl, rfl⟩))
    (fun os started H enc _ => lifted os started H enc)

theorem proved : Rows.TurnsRoundSaid := over
#print axioms proved
end Go.Proofs.Ytnelcbbjnpaodaa.turnsRound
