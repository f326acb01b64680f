/-
  For every input TurnsBack returns true, and each argument reads behind the call as it read before. No conditions.
-/
import Derived.Test.YtnelcbbjnpaodaaRows
import Derived.Test.YtnelcbbjnpaodaaG3
import Derived.Test.YtnelcbbjnpaodaaTrn11
import Derived.Test.YtnelcbbjnpaodaaG27
namespace Go.Proofs.Ytnelcbbjnpaodaa.turnsBack
open Go.ChangeShapes Go.WideShapes Go.ChangeAt Go.RowKit
open Go.ChangeMaps (open_string)

theorem fsm_four (f : Nat → Int) {n : Nat} (hn : n < 4) : fsm f 4 n = f n := by
  have : n = 0 ∨ n = 1 ∨ n = 2 ∨ n = 3 := by omega
  rcases this with rfl | rfl | rfl | rfl <;> simp [fsm]
theorem vf_of {f : Nat → Int} (h : rowE f 4 = 0) : vArr 8 (bnV (fldV f 4)) = vArr 8 (bnV f) := vArr_congr fun j _ => by
  have e : ∀ i, i < 4 → fldV f 4 i = f i := fun i hi => by unfold fldV; rw [if_pos h, fsm_four f hi]
  unfold bnV
  rw [bns_congr e j]
theorem bck_bns {f : Nat → Int} (h : rowE f 4 = 0) : bckE (bns f) = 0 ∧ (∀ n, n < 4 → bckV (bns f) n = f n) ∧ ∀ j, -9223372036854775808 ≤ bns f j ∧ bns f j ≤ 9223372036854775807 := by
  have hf : farB f 262144 4 = false := by
    unfold rowE at h
    rw [if_neg (by decide)] at h
    cases hx : farB f 262144 4 with
    | false => rfl
    | true => rw [hx] at h; cases h
  have hr := farB_not.1 hf
  have hb : ∀ j, (bns f j).natAbs ≤ 1048576 := bns_of_sum (by have := hr 0 (by decide); have := hr 1 (by decide); have := hr 2 (by decide); have := hr 3 (by decide); omega)
  have hn : farB (bns f) 1099511627776 8 = false := farB_not.2 fun i _ => by have := hb i; omega
  obtain ⟨h1, h2⟩ := fits_of (b := bns f) (f := f) fun j _ => rfl
  have e0 : bckE (bns f) = 0 := by unfold bckE; rw [hn, if_neg (by decide), if_pos h1]
  exact ⟨e0, fun n hn => by unfold bckV; rw [if_pos e0]; exact h2 n hn, fun j => by have := hb j; omega⟩

set_option linter.unusedVariables false
set_option linter.unusedSimpArgs false
set_option maxRecDepth 100000 in
set_option maxHeartbeats 8000000 in
theorem walk (B : Nat → Int) (uB : ∀ i, (Lit.int .i64 (B i)).wf = true) (F : Nat → Int) (uF : ∀ i, (Lit.int .i64 (F i)).wf = true) (W : World) :
    Calls Try.prog 4 #[.agg (vArr (4 * 2) fun i => .int .i64 (B i)), .agg (vArr 4 fun i => .int .i64 (F i))] W fun e w' => e = .returned (.bool true) ∧ Below W.heap.size W w' := by
  show Calls Try.prog 4 #[.agg #[.int .i64 (B 0), .int .i64 (B 1), .int .i64 (B 2), .int .i64 (B 3), .int .i64 (B 4), .int .i64 (B 5), .int .i64 (B 6), .int .i64 (B 7)], .agg #[.int .i64 (F 0), .int .i64 (F 1), .int .i64 (F 2), .int .i64 (F 3)]] W _
  have HWB : Hid (∀ j, j < 8 → -9223372036854775808 ≤ B j ∧ B j ≤ 9223372036854775807) := Lib.hid fun j _ => bounds_i64 (uB j)
  have HWF := Lib.hid uF
  clear uB uF
  obtain ⟨E, hE⟩ : ∃ E, bckE B = E := ⟨_, rfl⟩
  obtain ⟨V, hV⟩ : ∃ V, bckV B = V := ⟨_, rfl⟩
  obtain ⟨E2, hE2⟩ : ∃ E, rowE F 4 = E := ⟨_, rfl⟩
  obtain ⟨V2, hV2⟩ : ∃ V, fldV F 4 = V := ⟨_, rfl⟩
  have hZ : E2 ≠ 0 → ∀ i, V2 i = 0 := fun he i => by rw [← hV2]; unfold fldV; rw [hE2, if_neg he]
  have HE := Lib.hid hE
  have HV := Lib.hid hV
  have HE2 := Lib.hid hE2
  have HV2 := Lib.hid hV2
  have HZ := Lib.hid hZ
  clear hE hV hE2 hV2 hZ
  have q0 : ∀ w, (Op.equalIn 10000 24 (.agg #[.int .i64 (V 0), .int .i64 (V 1), .int .i64 (V 2), .int .i64 (V 3)]) (.agg #[.int .i64 (V 0), .int .i64 (V 1), .int .i64 (V 2), .int .i64 (V 3)])).run Try.prog w = .ok true w := fun w => by rw [teq4 V V w]; simp
  have HB0 : Hid (Blk ((W.alloc (.cells #[.int .i64 (B 0), .int .i64 (B 1), .int .i64 (B 2), .int .i64 (B 3), .int .i64 (B 4), .int .i64 (B 5), .int .i64 (B 6), .int .i64 (B 7)] 29)).alloc (.cells #[.int .i64 (F 0), .int .i64 (F 1), .int .i64 (F 2), .int .i64 (F 3)] 24)) W.heap.size 29 #[.int .i64 (B 0), .int .i64 (B 1), .int .i64 (B 2), .int .i64 (B 3), .int .i64 (B 4), .int .i64 (B 5), .int .i64 (B 6), .int .i64 (B 7)]) := Lib.hid (Blk.alloc (Blk.new_ rfl) _)
  have HF0 : Hid (Blk ((W.alloc (.cells #[.int .i64 (B 0), .int .i64 (B 1), .int .i64 (B 2), .int .i64 (B 3), .int .i64 (B 4), .int .i64 (B 5), .int .i64 (B 6), .int .i64 (B 7)] 29)).alloc (.cells #[.int .i64 (F 0), .int .i64 (F 1), .int .i64 (F 2), .int .i64 (F 3)] 24)) (W.heap.size + 1) 24 #[.int .i64 (F 0), .int .i64 (F 1), .int .i64 (F 2), .int .i64 (F 3)]) := Lib.hid (Blk.new_ (by simp))
  have QB : Hid (Below W.heap.size W ((W.alloc (.cells #[.int .i64 (B 0), .int .i64 (B 1), .int .i64 (B 2), .int .i64 (B 3), .int .i64 (B 4), .int .i64 (B 5), .int .i64 (B 6), .int .i64 (B 7)] 29)).alloc (.cells #[.int .i64 (F 0), .int .i64 (F 1), .int .i64 (F 2), .int .i64 (F 3)] 24))) := Lib.hid (((Below.refl _ W).alloc (Nat.le_refl _) _).alloc (by simp) _)
  obtain ⟨gB, hgB⟩ : ∃ h, W.heap.size = h := ⟨_, rfl⟩
  obtain ⟨gF, hgF⟩ : ∃ h, gB + 1 = h := ⟨_, rfl⟩
  replace HB0 := HB0.out
  replace HF0 := HF0.out
  replace QB := QB.out
  rw [hgB] at HB0 HF0
  rw [hgF] at HF0
  generalize hW2 : (W.alloc (.cells #[.int .i64 (B 0), .int .i64 (B 1), .int .i64 (B 2), .int .i64 (B 3), .int .i64 (B 4), .int .i64 (B 5), .int .i64 (B 6), .int .i64 (B 7)] 29)).alloc (.cells #[.int .i64 (F 0), .int .i64 (F 1), .int .i64 (F 2), .int .i64 (F 3)] 24) = w2 at HB0 HF0 QB
  replace HB0 := Lib.hid HB0
  replace HF0 := Lib.hid HF0
  replace QB := Lib.hid QB
  go_enter Try.func4, Try.ntmps4
  go_upto_region 1 with fail
  clear hgB hgF hW2
  go_wp2_with fail
  refine (liveT_any _).mono ?_
  rintro e w0 ⟨rfl, b0⟩
  have HB0 := Lib.hid (HB0.out.below b0 HB0.out.lt)
  have HF0 := Lib.hid (HF0.out.below b0 HF0.out.lt)
  have QB := Lib.hid (QB.out.trans (b0.mono QB.out.size))
  clear b0
  have cgB0 : w0.cell? ⟨gB, 0, none⟩ = some (.int .i64 (B 0)) := HB0.out.cell 0
  have cgB1 : w0.cell? ⟨gB, 1, none⟩ = some (.int .i64 (B 1)) := HB0.out.cell 1
  have cgB2 : w0.cell? ⟨gB, 2, none⟩ = some (.int .i64 (B 2)) := HB0.out.cell 2
  have cgB3 : w0.cell? ⟨gB, 3, none⟩ = some (.int .i64 (B 3)) := HB0.out.cell 3
  have cgB4 : w0.cell? ⟨gB, 4, none⟩ = some (.int .i64 (B 4)) := HB0.out.cell 4
  have cgB5 : w0.cell? ⟨gB, 5, none⟩ = some (.int .i64 (B 5)) := HB0.out.cell 5
  have cgB6 : w0.cell? ⟨gB, 6, none⟩ = some (.int .i64 (B 6)) := HB0.out.cell 6
  have cgB7 : w0.cell? ⟨gB, 7, none⟩ = some (.int .i64 (B 7)) := HB0.out.cell 7
  go_wp2_with fail
  clear cgB0 cgB1 cgB2 cgB3 cgB4 cgB5 cgB6 cgB7
  refine (tback_any B HWB.out _).mono ?_
  rw [HE.out, HV.out, iArr_four]
  rintro e w3 ⟨rfl, b3⟩
  have KHB0 : Blk (w3.alloc (.cells #[.int .i64 (V 0), .int .i64 (V 1), .int .i64 (V 2), .int .i64 (V 3)] 24)) gB 29 #[.int .i64 (B 0), .int .i64 (B 1), .int .i64 (B 2), .int .i64 (B 3), .int .i64 (B 4), .int .i64 (B 5), .int .i64 (B 6), .int .i64 (B 7)] := (HB0.out.below b3 HB0.out.lt).alloc _
  have KHF0 : Blk (w3.alloc (.cells #[.int .i64 (V 0), .int .i64 (V 1), .int .i64 (V 2), .int .i64 (V 3)] 24)) gF 24 #[.int .i64 (F 0), .int .i64 (F 1), .int .i64 (F 2), .int .i64 (F 3)] := (HF0.out.below b3 HF0.out.lt).alloc _
  have KN : Blk (w3.alloc (.cells #[.int .i64 (V 0), .int .i64 (V 1), .int .i64 (V 2), .int .i64 (V 3)] 24)) w3.heap.size 24 #[.int .i64 (V 0), .int .i64 (V 1), .int .i64 (V 2), .int .i64 (V 3)] := Blk.new w3 _ _
  have KB : Below W.heap.size W (w3.alloc (.cells #[.int .i64 (V 0), .int .i64 (V 1), .int .i64 (V 2), .int .i64 (V 3)] 24)) := (QB.out.trans (b3.mono QB.out.size)).alloc (Nat.le_trans QB.out.size b3.size) _
  obtain ⟨gx, hgx⟩ : ∃ h, w3.heap.size = h := ⟨_, rfl⟩
  rw [hgx] at KN
  have HB0 := Lib.hid KHB0
  have HF0 := Lib.hid KHF0
  have Hgx := Lib.hid KN
  have QB := Lib.hid KB
  clear KHB0 KHF0 KN KB b3
  go_upto_region 4 with fail
  generalize World.alloc _ _ = v3 at *
  clear hgx
  have cgB0 : v3.cell? ⟨gB, 0, none⟩ = some (.int .i64 (B 0)) := HB0.out.cell 0
  have cgB1 : v3.cell? ⟨gB, 1, none⟩ = some (.int .i64 (B 1)) := HB0.out.cell 1
  have cgB2 : v3.cell? ⟨gB, 2, none⟩ = some (.int .i64 (B 2)) := HB0.out.cell 2
  have cgB3 : v3.cell? ⟨gB, 3, none⟩ = some (.int .i64 (B 3)) := HB0.out.cell 3
  have cgB4 : v3.cell? ⟨gB, 4, none⟩ = some (.int .i64 (B 4)) := HB0.out.cell 4
  have cgB5 : v3.cell? ⟨gB, 5, none⟩ = some (.int .i64 (B 5)) := HB0.out.cell 5
  have cgB6 : v3.cell? ⟨gB, 6, none⟩ = some (.int .i64 (B 6)) := HB0.out.cell 6
  have cgB7 : v3.cell? ⟨gB, 7, none⟩ = some (.int .i64 (B 7)) := HB0.out.cell 7
  go_wp2_with fail
  clear cgB0 cgB1 cgB2 cgB3 cgB4 cgB5 cgB6 cgB7
  refine (trback_any B _).mono ?_
  rw [HE.out, HV.out, iArr_four]
  rintro e w4 ⟨rfl, b4⟩
  have KHB0 : Blk (w4.alloc (.cells #[.int .i64 (V 0), .int .i64 (V 1), .int .i64 (V 2), .int .i64 (V 3)] 24)) gB 29 #[.int .i64 (B 0), .int .i64 (B 1), .int .i64 (B 2), .int .i64 (B 3), .int .i64 (B 4), .int .i64 (B 5), .int .i64 (B 6), .int .i64 (B 7)] := (HB0.out.below b4 HB0.out.lt).alloc _
  have KHF0 : Blk (w4.alloc (.cells #[.int .i64 (V 0), .int .i64 (V 1), .int .i64 (V 2), .int .i64 (V 3)] 24)) gF 24 #[.int .i64 (F 0), .int .i64 (F 1), .int .i64 (F 2), .int .i64 (F 3)] := (HF0.out.below b4 HF0.out.lt).alloc _
  have KHgx : Blk (w4.alloc (.cells #[.int .i64 (V 0), .int .i64 (V 1), .int .i64 (V 2), .int .i64 (V 3)] 24)) gx 24 #[.int .i64 (V 0), .int .i64 (V 1), .int .i64 (V 2), .int .i64 (V 3)] := (Hgx.out.below b4 Hgx.out.lt).alloc _
  have KN : Blk (w4.alloc (.cells #[.int .i64 (V 0), .int .i64 (V 1), .int .i64 (V 2), .int .i64 (V 3)] 24)) w4.heap.size 24 #[.int .i64 (V 0), .int .i64 (V 1), .int .i64 (V 2), .int .i64 (V 3)] := Blk.new w4 _ _
  have KB : Below W.heap.size W (w4.alloc (.cells #[.int .i64 (V 0), .int .i64 (V 1), .int .i64 (V 2), .int .i64 (V 3)] 24)) := (QB.out.trans (b4.mono QB.out.size)).alloc (Nat.le_trans QB.out.size b4.size) _
  obtain ⟨gw, hgw⟩ : ∃ h, w4.heap.size = h := ⟨_, rfl⟩
  rw [hgw] at KN
  have HB0 := Lib.hid KHB0
  have HF0 := Lib.hid KHF0
  have Hgx := Lib.hid KHgx
  have Hgw := Lib.hid KN
  have QB := Lib.hid KB
  clear KHB0 KHF0 KHgx KN KB b4
  go_upto_region 5 with fail
  generalize World.alloc _ _ = v4 at *
  clear hgw
  have cgx0 : v4.cell? ⟨gx, 0, none⟩ = some (.int .i64 (V 0)) := Hgx.out.cell 0
  have cgx1 : v4.cell? ⟨gx, 1, none⟩ = some (.int .i64 (V 1)) := Hgx.out.cell 1
  have cgx2 : v4.cell? ⟨gx, 2, none⟩ = some (.int .i64 (V 2)) := Hgx.out.cell 2
  have cgx3 : v4.cell? ⟨gx, 3, none⟩ = some (.int .i64 (V 3)) := Hgx.out.cell 3
  have cgw0 : v4.cell? ⟨gw, 0, none⟩ = some (.int .i64 (V 0)) := Hgw.out.cell 0
  have cgw1 : v4.cell? ⟨gw, 1, none⟩ = some (.int .i64 (V 1)) := Hgw.out.cell 1
  have cgw2 : v4.cell? ⟨gw, 2, none⟩ = some (.int .i64 (V 2)) := Hgw.out.cell 2
  have cgw3 : v4.cell? ⟨gw, 3, none⟩ = some (.int .i64 (V 3)) := Hgw.out.cell 3
  go_upto_region 7 with fail
  clear cgx0 cgx1 cgx2 cgx3 cgw0 cgw1 cgw2 cgw3
  have hIF : IRow v4 .i64 (some ⟨gF, 0, none⟩) 4 F := irow_blk (k := .i64) (n := 4) (z := F) HF0.out (fun i _ => HWF.out i)
  have HIF := Lib.hid hIF
  clear hIF
  go_wp2_with fail
  by_cases h2 : E2 = 0
  · subst h2
    have HF8 : Hid (vArr 8 (bnV V2) = #[.int .i64 (bns F 0), .int .i64 (bns F 1), .int .i64 (bns F 2), .int .i64 (bns F 3), .int .i64 (bns F 4), .int .i64 (bns F 5), .int .i64 (bns F 6), .int .i64 (bns F 7)]) := Lib.hid (by rw [← HV2.out, vf_of HE2.out]; rfl)
    have HBK := Lib.hid (bck_bns HE2.out)
    refine (tof_any HIF.out (by decide)).mono ?_
    rw [HE2.out, HV2.out, HF8.out]
    rintro e w5 ⟨rfl, b5⟩
    have KHB0 : Blk (w5.alloc (.cells #[.int .i64 (bns F 0), .int .i64 (bns F 1), .int .i64 (bns F 2), .int .i64 (bns F 3), .int .i64 (bns F 4), .int .i64 (bns F 5), .int .i64 (bns F 6), .int .i64 (bns F 7)] 29)) gB 29 #[.int .i64 (B 0), .int .i64 (B 1), .int .i64 (B 2), .int .i64 (B 3), .int .i64 (B 4), .int .i64 (B 5), .int .i64 (B 6), .int .i64 (B 7)] := (HB0.out.below b5 HB0.out.lt).alloc _
    have KHF0 : Blk (w5.alloc (.cells #[.int .i64 (bns F 0), .int .i64 (bns F 1), .int .i64 (bns F 2), .int .i64 (bns F 3), .int .i64 (bns F 4), .int .i64 (bns F 5), .int .i64 (bns F 6), .int .i64 (bns F 7)] 29)) gF 24 #[.int .i64 (F 0), .int .i64 (F 1), .int .i64 (F 2), .int .i64 (F 3)] := (HF0.out.below b5 HF0.out.lt).alloc _
    have KHgx : Blk (w5.alloc (.cells #[.int .i64 (bns F 0), .int .i64 (bns F 1), .int .i64 (bns F 2), .int .i64 (bns F 3), .int .i64 (bns F 4), .int .i64 (bns F 5), .int .i64 (bns F 6), .int .i64 (bns F 7)] 29)) gx 24 #[.int .i64 (V 0), .int .i64 (V 1), .int .i64 (V 2), .int .i64 (V 3)] := (Hgx.out.below b5 Hgx.out.lt).alloc _
    have KHgw : Blk (w5.alloc (.cells #[.int .i64 (bns F 0), .int .i64 (bns F 1), .int .i64 (bns F 2), .int .i64 (bns F 3), .int .i64 (bns F 4), .int .i64 (bns F 5), .int .i64 (bns F 6), .int .i64 (bns F 7)] 29)) gw 24 #[.int .i64 (V 0), .int .i64 (V 1), .int .i64 (V 2), .int .i64 (V 3)] := (Hgw.out.below b5 Hgw.out.lt).alloc _
    have KN : Blk (w5.alloc (.cells #[.int .i64 (bns F 0), .int .i64 (bns F 1), .int .i64 (bns F 2), .int .i64 (bns F 3), .int .i64 (bns F 4), .int .i64 (bns F 5), .int .i64 (bns F 6), .int .i64 (bns F 7)] 29)) w5.heap.size 29 #[.int .i64 (bns F 0), .int .i64 (bns F 1), .int .i64 (bns F 2), .int .i64 (bns F 3), .int .i64 (bns F 4), .int .i64 (bns F 5), .int .i64 (bns F 6), .int .i64 (bns F 7)] := Blk.new w5 _ _
    have KB : Below W.heap.size W (w5.alloc (.cells #[.int .i64 (bns F 0), .int .i64 (bns F 1), .int .i64 (bns F 2), .int .i64 (bns F 3), .int .i64 (bns F 4), .int .i64 (bns F 5), .int .i64 (bns F 6), .int .i64 (bns F 7)] 29)) := (QB.out.trans (b5.mono QB.out.size)).alloc (Nat.le_trans QB.out.size b5.size) _
    obtain ⟨gm, hgm⟩ : ∃ h, w5.heap.size = h := ⟨_, rfl⟩
    rw [hgm] at KN
    have HB0 := Lib.hid KHB0
    have HF0 := Lib.hid KHF0
    have Hgx := Lib.hid KHgx
    have Hgw := Lib.hid KHgw
    have Hgm := Lib.hid KN
    have QB := Lib.hid KB
    clear KHB0 KHF0 KHgx KHgw KN KB b5
    go_upto_region 8 with fail
    generalize World.alloc _ _ = v5 at *
    clear hgm
    have cgm0 : v5.cell? ⟨gm, 0, none⟩ = some (.int .i64 (bns F 0)) := Hgm.out.cell 0
    have cgm1 : v5.cell? ⟨gm, 1, none⟩ = some (.int .i64 (bns F 1)) := Hgm.out.cell 1
    have cgm2 : v5.cell? ⟨gm, 2, none⟩ = some (.int .i64 (bns F 2)) := Hgm.out.cell 2
    have cgm3 : v5.cell? ⟨gm, 3, none⟩ = some (.int .i64 (bns F 3)) := Hgm.out.cell 3
    have cgm4 : v5.cell? ⟨gm, 4, none⟩ = some (.int .i64 (bns F 4)) := Hgm.out.cell 4
    have cgm5 : v5.cell? ⟨gm, 5, none⟩ = some (.int .i64 (bns F 5)) := Hgm.out.cell 5
    have cgm6 : v5.cell? ⟨gm, 6, none⟩ = some (.int .i64 (bns F 6)) := Hgm.out.cell 6
    have cgm7 : v5.cell? ⟨gm, 7, none⟩ = some (.int .i64 (bns F 7)) := Hgm.out.cell 7
    go_wp2_with fail
    clear cgm0 cgm1 cgm2 cgm3 cgm4 cgm5 cgm6 cgm7
    refine (tback_any (bns F) (fun j _ => HBK.out.2.2 j) _).mono ?_
    rw [HBK.out.1, iArr_congr HBK.out.2.1, iArr_four]
    rintro e w6 ⟨rfl, b6⟩
    have KHB0 : Blk (w6.alloc (.cells #[.int .i64 (F 0), .int .i64 (F 1), .int .i64 (F 2), .int .i64 (F 3)] 24)) gB 29 #[.int .i64 (B 0), .int .i64 (B 1), .int .i64 (B 2), .int .i64 (B 3), .int .i64 (B 4), .int .i64 (B 5), .int .i64 (B 6), .int .i64 (B 7)] := (HB0.out.below b6 HB0.out.lt).alloc _
    have KHF0 : Blk (w6.alloc (.cells #[.int .i64 (F 0), .int .i64 (F 1), .int .i64 (F 2), .int .i64 (F 3)] 24)) gF 24 #[.int .i64 (F 0), .int .i64 (F 1), .int .i64 (F 2), .int .i64 (F 3)] := (HF0.out.below b6 HF0.out.lt).alloc _
    have KHgx : Blk (w6.alloc (.cells #[.int .i64 (F 0), .int .i64 (F 1), .int .i64 (F 2), .int .i64 (F 3)] 24)) gx 24 #[.int .i64 (V 0), .int .i64 (V 1), .int .i64 (V 2), .int .i64 (V 3)] := (Hgx.out.below b6 Hgx.out.lt).alloc _
    have KHgw : Blk (w6.alloc (.cells #[.int .i64 (F 0), .int .i64 (F 1), .int .i64 (F 2), .int .i64 (F 3)] 24)) gw 24 #[.int .i64 (V 0), .int .i64 (V 1), .int .i64 (V 2), .int .i64 (V 3)] := (Hgw.out.below b6 Hgw.out.lt).alloc _
    have KHgm : Blk (w6.alloc (.cells #[.int .i64 (F 0), .int .i64 (F 1), .int .i64 (F 2), .int .i64 (F 3)] 24)) gm 29 #[.int .i64 (bns F 0), .int .i64 (bns F 1), .int .i64 (bns F 2), .int .i64 (bns F 3), .int .i64 (bns F 4), .int .i64 (bns F 5), .int .i64 (bns F 6), .int .i64 (bns F 7)] := (Hgm.out.below b6 Hgm.out.lt).alloc _
    have KN : Blk (w6.alloc (.cells #[.int .i64 (F 0), .int .i64 (F 1), .int .i64 (F 2), .int .i64 (F 3)] 24)) w6.heap.size 24 #[.int .i64 (F 0), .int .i64 (F 1), .int .i64 (F 2), .int .i64 (F 3)] := Blk.new w6 _ _
    have KB : Below W.heap.size W (w6.alloc (.cells #[.int .i64 (F 0), .int .i64 (F 1), .int .i64 (F 2), .int .i64 (F 3)] 24)) := (QB.out.trans (b6.mono QB.out.size)).alloc (Nat.le_trans QB.out.size b6.size) _
    obtain ⟨gy, hgy⟩ : ∃ h, w6.heap.size = h := ⟨_, rfl⟩
    rw [hgy] at KN
    have HB0 := Lib.hid KHB0
    have HF0 := Lib.hid KHF0
    have Hgx := Lib.hid KHgx
    have Hgw := Lib.hid KHgw
    have Hgm := Lib.hid KHgm
    have Hgy := Lib.hid KN
    have QB := Lib.hid KB
    clear KHB0 KHF0 KHgx KHgw KHgm KN KB b6
    go_upto_region 11 with fail
    generalize World.alloc _ _ = v6 at *
    clear hgy
    have cgF0 : v6.cell? ⟨gF, 0, none⟩ = some (.int .i64 (F 0)) := HF0.out.cell 0
    have cgF1 : v6.cell? ⟨gF, 1, none⟩ = some (.int .i64 (F 1)) := HF0.out.cell 1
    have cgF2 : v6.cell? ⟨gF, 2, none⟩ = some (.int .i64 (F 2)) := HF0.out.cell 2
    have cgF3 : v6.cell? ⟨gF, 3, none⟩ = some (.int .i64 (F 3)) := HF0.out.cell 3
    have cgy0 : v6.cell? ⟨gy, 0, none⟩ = some (.int .i64 (F 0)) := Hgy.out.cell 0
    have cgy1 : v6.cell? ⟨gy, 1, none⟩ = some (.int .i64 (F 1)) := Hgy.out.cell 1
    have cgy2 : v6.cell? ⟨gy, 2, none⟩ = some (.int .i64 (F 2)) := Hgy.out.cell 2
    have cgy3 : v6.cell? ⟨gy, 3, none⟩ = some (.int .i64 (F 3)) := Hgy.out.cell 3
    have q1 : ∀ w, (Op.equalIn 10000 24 (.agg #[.int .i64 (F 0), .int .i64 (F 1), .int .i64 (F 2), .int .i64 (F 3)]) (.agg #[.int .i64 (F 0), .int .i64 (F 1), .int .i64 (F 2), .int .i64 (F 3)])).run Try.prog w = .ok true w := fun w => by rw [teq4 F F w]; simp
    go_wp2_with fail
    go_ret
    exact ⟨rfl, QB.out⟩
  have n0 : (E2 != 0) = true := by simpa using h2
  have HF8 : Hid (vArr 8 (bnV V2) = #[.int .i64 (0), .int .i64 (0), .int .i64 (0), .int .i64 (0), .int .i64 (0), .int .i64 (0), .int .i64 (0), .int .i64 (0)]) := Lib.hid (bnV_zero V2 (HZ.out h2))
  refine (tof_any HIF.out (by decide)).mono ?_
  rw [HE2.out, HV2.out, HF8.out]
  rintro e w5 ⟨rfl, b5⟩
  have KHB0 : Blk (w5.alloc (.cells #[.int .i64 (0), .int .i64 (0), .int .i64 (0), .int .i64 (0), .int .i64 (0), .int .i64 (0), .int .i64 (0), .int .i64 (0)] 29)) gB 29 #[.int .i64 (B 0), .int .i64 (B 1), .int .i64 (B 2), .int .i64 (B 3), .int .i64 (B 4), .int .i64 (B 5), .int .i64 (B 6), .int .i64 (B 7)] := (HB0.out.below b5 HB0.out.lt).alloc _
  have KHF0 : Blk (w5.alloc (.cells #[.int .i64 (0), .int .i64 (0), .int .i64 (0), .int .i64 (0), .int .i64 (0), .int .i64 (0), .int .i64 (0), .int .i64 (0)] 29)) gF 24 #[.int .i64 (F 0), .int .i64 (F 1), .int .i64 (F 2), .int .i64 (F 3)] := (HF0.out.below b5 HF0.out.lt).alloc _
  have KHgx : Blk (w5.alloc (.cells #[.int .i64 (0), .int .i64 (0), .int .i64 (0), .int .i64 (0), .int .i64 (0), .int .i64 (0), .int .i64 (0), .int .i64 (0)] 29)) gx 24 #[.int .i64 (V 0), .int .i64 (V 1), .int .i64 (V 2), .int .i64 (V 3)] := (Hgx.out.below b5 Hgx.out.lt).alloc _
  have KHgw : Blk (w5.alloc (.cells #[.int .i64 (0), .int .i64 (0), .int .i64 (0), .int .i64 (0), .int .i64 (0), .int .i64 (0), .int .i64 (0), .int .i64 (0)] 29)) gw 24 #[.int .i64 (V 0), .int .i64 (V 1), .int .i64 (V 2), .int .i64 (V 3)] := (Hgw.out.below b5 Hgw.out.lt).alloc _
  have KN : Blk (w5.alloc (.cells #[.int .i64 (0), .int .i64 (0), .int .i64 (0), .int .i64 (0), .int .i64 (0), .int .i64 (0), .int .i64 (0), .int .i64 (0)] 29)) w5.heap.size 29 #[.int .i64 (0), .int .i64 (0), .int .i64 (0), .int .i64 (0), .int .i64 (0), .int .i64 (0), .int .i64 (0), .int .i64 (0)] := Blk.new w5 _ _
  have KB : Below W.heap.size W (w5.alloc (.cells #[.int .i64 (0), .int .i64 (0), .int .i64 (0), .int .i64 (0), .int .i64 (0), .int .i64 (0), .int .i64 (0), .int .i64 (0)] 29)) := (QB.out.trans (b5.mono QB.out.size)).alloc (Nat.le_trans QB.out.size b5.size) _
  obtain ⟨gm, hgm⟩ : ∃ h, w5.heap.size = h := ⟨_, rfl⟩
  rw [hgm] at KN
  have HB0 := Lib.hid KHB0
  have HF0 := Lib.hid KHF0
  have Hgx := Lib.hid KHgx
  have Hgw := Lib.hid KHgw
  have Hgm := Lib.hid KN
  have QB := Lib.hid KB
  clear KHB0 KHF0 KHgx KHgw KN KB b5
  go_upto_region 8 with fail
  generalize World.alloc _ _ = v5 at *
  clear hgm
  have cgm0 : v5.cell? ⟨gm, 0, none⟩ = some (.int .i64 (0)) := Hgm.out.cell 0
  have cgm1 : v5.cell? ⟨gm, 1, none⟩ = some (.int .i64 (0)) := Hgm.out.cell 1
  have cgm2 : v5.cell? ⟨gm, 2, none⟩ = some (.int .i64 (0)) := Hgm.out.cell 2
  have cgm3 : v5.cell? ⟨gm, 3, none⟩ = some (.int .i64 (0)) := Hgm.out.cell 3
  have cgm4 : v5.cell? ⟨gm, 4, none⟩ = some (.int .i64 (0)) := Hgm.out.cell 4
  have cgm5 : v5.cell? ⟨gm, 5, none⟩ = some (.int .i64 (0)) := Hgm.out.cell 5
  have cgm6 : v5.cell? ⟨gm, 6, none⟩ = some (.int .i64 (0)) := Hgm.out.cell 6
  have cgm7 : v5.cell? ⟨gm, 7, none⟩ = some (.int .i64 (0)) := Hgm.out.cell 7
  have q1 : ∀ w, (Op.equalIn 10000 29 (.agg #[.int .i64 (0), .int .i64 (0), .int .i64 (0), .int .i64 (0), .int .i64 (0), .int .i64 (0), .int .i64 (0), .int .i64 (0)]) (.agg #[.int .i64 (0), .int .i64 (0), .int .i64 (0), .int .i64 (0), .int .i64 (0), .int .i64 (0), .int .i64 (0), .int .i64 (0)])).run Try.prog w = .ok true w := fun w => teq8 (fun _ => 0) (fun _ => 0) w
  go_wp2_with fail
  go_ret
  exact ⟨rfl, QB.out⟩

theorem own : ownKnob Try.prog.godebug = none := by kernel_rfl
theorem laidOut : laidOutB Try.prog = true := by kernel_rfl
set_option maxRecDepth 100000 in
theorem lifted (os : Os) (started : os.Started) (H : Type) (enc : TypeId × Value → H) :
    ReturnsInHanded {} Try.checked os 4 .any (Rows.turnsBackSpec.pre6 enc Try.prog Try.f4 Rows.turnsBackRow.domain false) (Rows.turnsBackSpec.post enc Try.prog Try.f4 false true false false) := by
  refine returnsInHanded_of_change (C := Try.checked) own started (by kernel_rfl) Try.func4
    (ChangeSpec.witness6 (enc := enc) (C := Try.checked) false ⟨#[], #[.agg #[.int .i64 0, .int .i64 0, .int .i64 0, .int .i64 0, .int .i64 0, .int .i64 0, .int .i64 0, .int .i64 0], .agg #[.int .i64 0, .int .i64 0, .int .i64 0, .int .i64 0]], []⟩ 8 (by kernel_rfl) (by kernel_rfl) (by kernel_rfl) (by kernel_rfl)) ?_
  intro W base args ds gs before hval0 hW _ _
  have hval : ∀ (j : Nat) t v, Try.f4.params[j]? = some t → args[j]? = some v → Value.okWide Try.prog W .any base t v := hval0
  have hW' := hW
  obtain ⟨p, q, hA0, hV, rfl, _, _⟩ := hW
  have hA : DataW.TrodAll enc Try.prog W 0 (fun _ => true) true Try.f4.params.toList args.toList ds p := hA0
  rw [Try.params4] at hA hval
  obtain ⟨v0, vs0, d0, ds0, p0, q0, hargs, rfl, rfl, h0, r0⟩ := trodAll_cons hA
  obtain ⟨v1, vs1, d1, ds1, p1, q1, rfl, rfl, rfl, h1, r1⟩ := trodAll_cons r0
  obtain ⟨rfl, rfl, rfl⟩ := trodAll_nil r1
  obtain rfl : args = #[v0, v1] := by cases args; simp_all
  obtain ⟨rfl, rfl⟩ := trodVars_none hV
  obtain ⟨z0, rfl, u0⟩ := array_intsM (n := 4) (q := 2) Try.underlying29 Try.underlying28 Try.underlying3 (by kernel_rfl) (by kernel_rfl) (by kernel_rfl) (by decide) (hval 0 29 v0 rfl rfl) h0
  obtain ⟨z1, rfl, u1⟩ := array_ints_v Try.underlying24 Try.underlying3 (by kernel_rfl) (by kernel_rfl) (hval 1 24 v1 rfl rfl) h1
  clear hA0 hval0
  refine (walk z0 u0 z1 u1 W).mono fun e W' ⟨he, hg⟩ => ?_
  subst he
  exact ⟨_, rfl, law_post rfl Try.underlying4 laidOut (by kernel_rfl) rfl hW' rfl hg⟩

theorem over : Rows.turnsBackRow.holds Try.pinned (OpenSpec.ofChange Rows.turnsBackSpec) :=
  OpenClaim.holds_of_wide 4 Try.f4 rfl rfl rfl rfl rfl rfl rfl ⟨rfl, rfl, rfl, rfl, rfl⟩ rfl rfl rfl rfl rfl (by kernel_rfl) Try.func4 (by kernel_rfl)
    (of_decide_eq_true (by kernel_rfl)) (by unfold Func.isWrapper; first | (rw [if_pos (by decide +kernel)]; kernel_rfl) | (rw [if_neg (by decide +kernel)]; exact ⟨rfl, rfl⟩))
    (fun os started H enc _ => lifted os started H enc)

theorem proved : Rows.TurnsBackSaid := over
#print axioms proved
end Go.Proofs.Ytnelcbbjnpaodaa.turnsBack
