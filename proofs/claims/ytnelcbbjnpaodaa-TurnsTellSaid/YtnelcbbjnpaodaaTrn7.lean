/-
  Layer 17: Back.
-/
import Derived.Test.YtnelcbbjnpaodaaTrn6
namespace Go.Proofs.Ytnelcbbjnpaodaa
open Go.RowKit
set_option linter.unusedVariables false
set_option linter.unusedSimpArgs false
set_option maxRecDepth 100000
attribute [local go_sem] run_store_complex
/-- What is wrong with eight parts, and what they are turned back to. -/
def bckE (b : Nat → Int) : Int := if farB b 1099511627776 8 = true then 1 else if fits b = true then 0 else 3
def bckV (b : Nat → Int) (n : Nat) : Int := if bckE b = 0 then und b n else 0
def inV (b : Nat → Int) (j : Nat) : Value := .int .i64 (b j)
theorem fits_eq (b : Nat → Int) : ((List.range 4).all fun i => (List.range 2).all fun j => bns (und b) (i * 2 + j) == b (i * 2 + j)) = fits b := by
  apply Bool.eq_iff_iff.2
  rw [fits_iff]
  simp only [List.all_eq_true, List.mem_range, beq_iff_eq]
  constructor
  · intro h j hj
    have := h (j / 2) (by omega) (j % 2) (by omega)
    rwa [show j / 2 * 2 + j % 2 = j by omega] at this
  · intro h i hi j hj
    exact h _ (by omega)
/-- Eight integers by value, compared. -/
theorem teq8 (f g : Nat → Int) (w : World) : (Op.equalIn 10000 29 (.agg #[.int .i64 (f 0), .int .i64 (f 1), .int .i64 (f 2), .int .i64 (f 3), .int .i64 (f 4), .int .i64 (f 5), .int .i64 (f 6), .int .i64 (f 7)]) (.agg #[.int .i64 (g 0), .int .i64 (g 1), .int .i64 (g 2), .int .i64 (g 3), .int .i64 (g 4), .int .i64 (g 5), .int .i64 (g 6), .int .i64 (g 7)])).run Try.prog w = .ok ((List.range 4).all fun i => (List.range 2).all fun j => f (i * 2 + j) == g (i * 2 + j)) w :=
  run_eql_intsM (n := 4) (m := 2) Try.underlying29 Try.underlying28 Try.underlying3 (by kernel_rfl) (by kernel_rfl) tinfo2 9997 f g w
theorem teq4 (f g : Nat → Int) (w : World) : (Op.equalIn 10000 24 (.agg #[.int .i64 (f 0), .int .i64 (f 1), .int .i64 (f 2), .int .i64 (f 3)]) (.agg #[.int .i64 (g 0), .int .i64 (g 1), .int .i64 (g 2), .int .i64 (g 3)])).run Try.prog w = .ok ((List.range 4).all fun i => f i == g i) w :=
  run_eql_ints (n := 4) Try.underlying24 Try.underlying3 (by kernel_rfl) (by kernel_rfl) 9998 f g w
set_option maxHeartbeats 8000000 in
theorem tback_any (B : Nat → Int) (hW : ∀ j, j < 8 → -9223372036854775808 ≤ B j ∧ B j ≤ 9223372036854775807) (w : World) : Calls Try.prog 15 #[.agg #[.int .i64 (B 0), .int .i64 (B 1), .int .i64 (B 2), .int .i64 (B 3), .int .i64 (B 4), .int .i64 (B 5), .int .i64 (B 6), .int .i64 (B 7)]] w fun e w' => e = .returned (.tuple #[.agg (iArr .i64 4 (bckV B)), .int .i64 (bckE B)]) ∧ Below w.heap.size w w' := by
  have WBD := Lib.hid hW
  clear hW
  obtain ⟨E, hE⟩ : ∃ E, bckE B = E := ⟨_, rfl⟩
  obtain ⟨V, hV⟩ : ∃ V, bckV B = V := ⟨_, rfl⟩
  rw [hE, hV]
  have HE := Lib.hid hE
  have HV := Lib.hid hV
  have HZ : Hid (E ≠ 0 → iArr .i64 4 V = vArr 4 fun _ => .int .i64 0) := Lib.hid fun he => by
    rw [iArr_v]
    exact vArr_congr fun i _ => by rw [← HV.out]; unfold bckV; rw [hE, if_neg he]
  have hqs : Blk (((w.alloc (.cells #[.int .i64 (B 0), .int .i64 (B 1), .int .i64 (B 2), .int .i64 (B 3), .int .i64 (B 4), .int .i64 (B 5), .int .i64 (B 6), .int .i64 (B 7)] 29)).alloc (.cells #[.int .i64 0, .int .i64 0, .int .i64 0, .int .i64 0] 24)).alloc (.cells #[.complex .f64 0 0, .complex .f64 0 0, .complex .f64 0 0, .complex .f64 0 0] 54)) w.heap.size 29 #[.int .i64 (B 0), .int .i64 (B 1), .int .i64 (B 2), .int .i64 (B 3), .int .i64 (B 4), .int .i64 (B 5), .int .i64 (B 6), .int .i64 (B 7)] := Blk.alloc (Blk.alloc (Blk.new_ rfl) _) _
  have hq0 : Blk (((w.alloc (.cells #[.int .i64 (B 0), .int .i64 (B 1), .int .i64 (B 2), .int .i64 (B 3), .int .i64 (B 4), .int .i64 (B 5), .int .i64 (B 6), .int .i64 (B 7)] 29)).alloc (.cells #[.int .i64 0, .int .i64 0, .int .i64 0, .int .i64 0] 24)).alloc (.cells #[.complex .f64 0 0, .complex .f64 0 0, .complex .f64 0 0, .complex .f64 0 0] 54)) (w.heap.size + 1) 24 (vArr 4 fun _ => .int .i64 0) := Blk.alloc (Blk.new_ (by simp)) _
  have hq1 : Blk (((w.alloc (.cells #[.int .i64 (B 0), .int .i64 (B 1), .int .i64 (B 2), .int .i64 (B 3), .int .i64 (B 4), .int .i64 (B 5), .int .i64 (B 6), .int .i64 (B 7)] 29)).alloc (.cells #[.int .i64 0, .int .i64 0, .int .i64 0, .int .i64 0] 24)).alloc (.cells #[.complex .f64 0 0, .complex .f64 0 0, .complex .f64 0 0, .complex .f64 0 0] 54)) (w.heap.size + 1 + 1) 54 (vArr 4 (upTo_ (fun i => tcz (floatOfInt .f64 (B (i * 2))) (floatOfInt .f64 (B (i * 2 + 1)))) (fun _ => tcz 0 0) 0)) := Blk.new_ (by simp)
  have hB : Below w.heap.size w (((w.alloc (.cells #[.int .i64 (B 0), .int .i64 (B 1), .int .i64 (B 2), .int .i64 (B 3), .int .i64 (B 4), .int .i64 (B 5), .int .i64 (B 6), .int .i64 (B 7)] 29)).alloc (.cells #[.int .i64 0, .int .i64 0, .int .i64 0, .int .i64 0] 24)).alloc (.cells #[.complex .f64 0 0, .complex .f64 0 0, .complex .f64 0 0, .complex .f64 0 0] 54)) := (((Below.refl _ w).alloc (Nat.le_refl _) _).alloc (by simp) _).alloc (by simp; omega) _
  have HS := Lib.hid hqs
  have H0 := Lib.hid hq0
  have H1 := Lib.hid hq1
  have HB := Lib.hid hB
  have HX : Hid (∀ k : Nat, k < 4 → ∀ w, (Instr.index 29 (.agg #[.int .i64 (B 0), .int .i64 (B 1), .int .i64 (B 2), .int .i64 (B 3), .int .i64 (B 4), .int .i64 (B 5), .int .i64 (B 6), .int .i64 (B 7)]) (.int .i64 (k : Int))).run Try.prog w = .ok (.agg #[.int .i64 (B (k * 2)), .int .i64 (B (k * 2 + 1))]) w) := Lib.hid fun k hk w => ix_pair (fun j => .int .i64 (B j)) k hk w
  clear hqs hq0 hq1 hB hE hV
  go_enter Try.func15, Try.ntmps15
  go_wp2_with fail
  generalize World.alloc _ _ = w3 at *
  go_loopw [9] (fun i wr => ∃ k : Nat, k ≤ 4 ∧ i = .int .i64 k ∧ (∀ j, j < k * 2 → -1099511627776 ≤ B j ∧ B j ≤ 1099511627776) ∧ Blk wr w.heap.size 29 #[.int .i64 (B 0), .int .i64 (B 1), .int .i64 (B 2), .int .i64 (B 3), .int .i64 (B 4), .int .i64 (B 5), .int .i64 (B 6), .int .i64 (B 7)] ∧ Blk wr (w.heap.size + 1) 24 (vArr 4 fun _ => .int .i64 0) ∧ Blk wr (w.heap.size + 1 + 1) 54 (vArr 4 (upTo_ (fun i => tcz (floatOfInt .f64 (B (i * 2))) (floatOfInt .f64 (B (i * 2 + 1)))) (fun _ => tcz 0 0) k)) ∧ Below w.heap.size w wr) (fun i _ => 4 - (intOf i).toNat)
  case atStart => exact ⟨0, by omega, rfl, fun j hj => absurd hj (by omega), HS.out, H0.out, H1.out, HB.out⟩
  case round =>
    clear H0 H1 HS HB
    obtain ⟨k, hk, rfl, hin, hqs, hq0, hq1, hB⟩ := hrel
    have HIN := Lib.hid hin
    have QS := Lib.hid hqs
    have Q0 := Lib.hid hq0
    have Q1 := Lib.hid hq1
    have QB := Lib.hid hB
    clear hin hqs hq0 hB
    by_cases hlt : k < 4
    · have i1 : (k : Int) < 4 := by omega
      have hix := HX.out k hlt
      obtain ⟨a, ha⟩ : ∃ a, B (k * 2) = a := ⟨_, rfl⟩
      obtain ⟨b, hb⟩ : ∃ b, B (k * 2 + 1) = b := ⟨_, rfl⟩
      rw [ha, hb] at hix
      have hl3 := hq1.lt
      have HPR : Hid (∀ f : Nat → Int, f 0 = a → f 1 = b → #[.int .i64 a, .int .i64 b] = iArr .i64 2 f) := Lib.hid fun f h0 h1 => by rw [← h0, ← h1]; rfl
      have HW : Hid ((-9223372036854775808 ≤ a ∧ a ≤ 9223372036854775807) ∧ -9223372036854775808 ≤ b ∧ b ≤ 9223372036854775807) := Lib.hid (by rw [← ha, ← hb]; exact ⟨WBD.out _ (by omega), WBD.out _ (by omega)⟩)
      have HAB := Lib.hid (And.intro ha hb)
      have HLT := Lib.hid hlt
      clear hq1 ha hb
      generalize (Value.agg #[.int .i64 (B 0), .int .i64 (B 1), .int .i64 (B 2), .int .i64 (B 3), .int .i64 (B 4), .int .i64 (B 5), .int .i64 (B 6), .int .i64 (B 7)]) = AV at *
      go_upto_region 5 with fail
      have K0 : Blk (wr.alloc (.cells #[.int .i64 a, .int .i64 b] 28)) (w.heap.size + 1) 24 (vArr 4 fun _ => .int .i64 0) := Q0.out.alloc _
      have KB : Below w.heap.size w (wr.alloc (.cells #[.int .i64 a, .int .i64 b] 28)) := QB.out.alloc (by omega) _
      have KS : Blk (wr.alloc (.cells #[.int .i64 a, .int .i64 b] 28)) w.heap.size 29 #[.int .i64 (B 0), .int .i64 (B 1), .int .i64 (B 2), .int .i64 (B 3), .int .i64 (B 4), .int .i64 (B 5), .int .i64 (B 6), .int .i64 (B 7)] := QS.out.alloc _
      have K1 : Blk (wr.alloc (.cells #[.int .i64 a, .int .i64 b] 28)) (w.heap.size + 1 + 1) 54 (vArr 4 (upTo_ (fun i => tcz (floatOfInt .f64 (B (i * 2))) (floatOfInt .f64 (B (i * 2 + 1)))) (fun _ => tcz 0 0) k)) := Q1.out.alloc _
      have K2 : Blk (wr.alloc (.cells #[.int .i64 a, .int .i64 b] 28)) wr.heap.size 28 #[.int .i64 a, .int .i64 b] := Blk.new wr _ _
      generalize World.alloc _ _ = w4 at *
      obtain ⟨h, hh⟩ : ∃ h, wr.heap.size = h := ⟨_, rfl⟩
      rw [hh] at K2 hl3
      have HH := Lib.hid hh
      have c0 : w4.cell? ⟨h, 0, none⟩ = some (.int .i64 a) := K2.cell 0
      have c1 : w4.cell? ⟨h, 1, none⟩ = some (.int .i64 b) := K2.cell 1
      have Q0 := Lib.hid K0
      have Q1 := Lib.hid K1
      have Q2 := Lib.hid K2
      have QB := Lib.hid KB
      have QS := Lib.hid KS
      have d0 : w4.cell? ⟨w.heap.size + 1, 0, none⟩ = some (.int .i64 0) := K0.cell 0
      have g0 := K0.frozen 0
      have d1 : w4.cell? ⟨w.heap.size + 1, 1, none⟩ = some (.int .i64 0) := K0.cell 1
      have g1 := K0.frozen 1
      have d2 : w4.cell? ⟨w.heap.size + 1, 2, none⟩ = some (.int .i64 0) := K0.cell 2
      have g2 := K0.frozen 2
      have d3 : w4.cell? ⟨w.heap.size + 1, 3, none⟩ = some (.int .i64 0) := K0.cell 3
      have g3 := K0.frozen 3
      have hcu : w4.cell? ⟨w.heap.size + 1 + 1, k, none⟩ = some (.complex .f64 0 0) := by rw [K1.cell, vArr_at 4 _ _ hlt]; unfold upTo_; rw [if_neg (by omega)]; rfl
      have hfu : w4.frozen? ⟨w.heap.size + 1 + 1, k, none⟩ = false := K1.frozen _
      clear K0 K1 K2 KB KS hlt
      rw [hh]
      clear hh
      go_wp2_with fail
      have hIR : IRow w4 .i64 (some ⟨h, 0, none⟩) 2 (fun j => if j = 0 then a else b) := irow_blk (HPR.out (fun j => if j = 0 then a else b) rfl rfl ▸ Q2.out) fun i _ => by
        split
        · exact WalkArith.wf_i64 HW.out.1
        · exact WalkArith.wf_i64 HW.out.2
      obtain ⟨F, hF⟩ : ∃ F, farB (fun j => if j = 0 then a else b) 1099511627776 2 = F := ⟨_, rfl⟩
      refine (tbeyond_any (n := 2) hIR (by decide) 1099511627776 (by decide) (by decide)).mono ?_
      rw [hF]
      clear hIR
      have HF := Lib.hid hF
      clear hF
      cases F with
      | true =>
        have hE1 : bckE B = 1 := by
          unfold bckE
          rw [if_pos]
          cases hx : farB B 1099511627776 8 with
          | true => rfl
          | false =>
            have h1 := farB_not.1 hx (k * 2) (by have := HLT.out; omega)
            have h2 := farB_not.1 hx (k * 2 + 1) (by have := HLT.out; omega)
            rw [HAB.out.1] at h1
            rw [HAB.out.2] at h2
            have : farB (fun j => if j = 0 then a else b) 1099511627776 2 = false := farB_not.2 fun i hi => by
              have : i = 0 ∨ i = 1 := by omega
              rcases this with rfl | rfl
              · exact h1
              · exact h2
            rw [HF.out] at this
            cases this
        obtain rfl : E = 1 := HE.out.symm.trans hE1
        clear hE1
        rintro e w' ⟨rfl, rfl⟩
        go_wp2_with fail
        refine bodyPost_ret (v := .tuple #[.agg (vArr 4 fun _ => .int .i64 0), .int .i64 1]) (results_cell_tmp (a := ⟨w.heap.size + 1, 0, none⟩) Try.results15 (by rfl) ((Q0.out.put4 rfl (fun _ => .int .i64 0)).run_load Try.underlying24 rfl tinfo4) rfl) rfl ?_
        exact ⟨by rw [HZ.out (by decide)], below4 QB.out (by omega) (fun _ => .int .i64 0)⟩
      | false =>
      have hab : (-1099511627776 ≤ a ∧ a ≤ 1099511627776) ∧ -1099511627776 ≤ b ∧ b ≤ 1099511627776 := by
        have := farB_not.1 HF.out
        exact ⟨this 0 (by decide), this 1 (by decide)⟩
      have ca := tconv_if a
      have cb := tconv_if b
      obtain ⟨fa, hfa⟩ : ∃ x, floatOfInt .f64 a = x := ⟨_, rfl⟩
      obtain ⟨fb, hfb⟩ : ∃ x, floatOfInt .f64 b = x := ⟨_, rfl⟩
      rw [hfa] at ca
      rw [hfb] at cb
      have HAB2 := Lib.hid hab
      have HFF := Lib.hid (And.intro hfa hfb)
      clear hab hfa hfb
      rintro e w' ⟨rfl, rfl⟩
      go_wp2_with fail
      go_roundw
      case rel =>
        refine ⟨k + 1, by have := HLT.out; omega, by go_num, fun j hj => ?_, QS.out.far (p := ⟨w.heap.size + 1 + 1, k, none⟩) (by simp; omega) _, Q0.out.far (p := ⟨w.heap.size + 1 + 1, k, none⟩) (by simp) _, ?_, QB.out.setCell (p := ⟨w.heap.size + 1 + 1, k, none⟩) (by simp; omega) _⟩
        · by_cases h1 : j < k * 2
          · exact HIN.out j h1
          · have : j = k * 2 ∨ j = k * 2 + 1 := by omega
            rcases this with rfl | rfl
            · rw [HAB.out.1]; exact HAB2.out.1
            · rw [HAB.out.2]; exact HAB2.out.2
        · rw [← upTo_put]
          have := Q1.out.set_ k (tcz fa fb)
          rw [HAB.out.1, HAB.out.2, HFF.out.1, HFF.out.2]
          exact this
      case measure => have := HLT.out; simp [intOf]; omega
    · have i1 : ¬ (k : Int) < 4 := by omega
      obtain rfl : k = 4 := by omega
      rw [upTo_all] at hq1
      have HNF : Hid (farB B 1099511627776 8 = false) := Lib.hid (farB_not.2 fun i hi => HIN.out i (by omega))
      have HIN8 : Hid (∀ j, j < 8 → (B j).natAbs ≤ 1099511627776) := Lib.hid fun j hj => by have := HIN.out j (by omega); omega
      have c0 : wr.cell? ⟨w.heap.size + 1 + 1, 0, none⟩ = some (.complex .f64 (floatOfInt .f64 (B 0)) (floatOfInt .f64 (B 1))) := by rw [hq1.cell, vArr_at 4 _ _ (by decide)]; rfl
      have c1 : wr.cell? ⟨w.heap.size + 1 + 1, 1, none⟩ = some (.complex .f64 (floatOfInt .f64 (B 2)) (floatOfInt .f64 (B 3))) := by rw [hq1.cell, vArr_at 4 _ _ (by decide)]; rfl
      have c2 : wr.cell? ⟨w.heap.size + 1 + 1, 2, none⟩ = some (.complex .f64 (floatOfInt .f64 (B 4)) (floatOfInt .f64 (B 5))) := by rw [hq1.cell, vArr_at 4 _ _ (by decide)]; rfl
      have c3 : wr.cell? ⟨w.heap.size + 1 + 1, 3, none⟩ = some (.complex .f64 (floatOfInt .f64 (B 6)) (floatOfInt .f64 (B 7))) := by rw [hq1.cell, vArr_at 4 _ _ (by decide)]; rfl
      have hl3 := hq1.lt
      clear hq1 Q1 HIN
      generalize (Value.agg #[.int .i64 (B 0), .int .i64 (B 1), .int .i64 (B 2), .int .i64 (B 3), .int .i64 (B 4), .int .i64 (B 5), .int .i64 (B 6), .int .i64 (B 7)]) = AV at *
      go_wp2_with fail
      refine (tundone_any (fun i => floatOfInt .f64 (B (i * 2))) (fun i => floatOfInt .f64 (B (i * 2 + 1))) (fun i => (B (i * 2), B (i * 2 + 1))) (fun i hi => ⟨isI_of _ (by have := HIN8.out (i * 2) (by omega); omega), isI_of _ (by have := HIN8.out (i * 2 + 1) (by omega); omega)⟩) (fun i hi => ⟨by have := HIN8.out (i * 2) (by omega); dsimp only; omega, by have := HIN8.out (i * 2 + 1) (by omega); dsimp only; omega⟩) wr).mono ?_
      obtain ⟨U, hU⟩ : ∃ U, und B = U := ⟨_, rfl⟩
      have hUV : vArr 4 (udV fun i => (B (i * 2), B (i * 2 + 1))) = #[.int .i64 (U 0), .int .i64 (U 1), .int .i64 (U 2), .int .i64 (U 3)] := by
        have : vArr 4 (udV fun i => (B (i * 2), B (i * 2 + 1))) = vArr 4 fun n => .int .i64 (U n) := vArr_congr fun n hn => by unfold udV; rw [bk4_of B hn, ← hU]; rfl
        rw [this]; rfl
      rw [hUV]
      clear hUV
      rintro e w5 ⟨rfl, b5⟩
      have hUB : ∀ n, n < 4 → (U n).natAbs ≤ 1099511627776 := fun n hn => by rw [← hU]; exact und_bd HIN8.out hn
      have HU := Lib.hid hU
      have HUB := Lib.hid hUB
      clear hU hUB
      have hl5 := b5.size
      have K0 : Blk (w5.alloc (.cells #[.int .i64 (U 0), .int .i64 (U 1), .int .i64 (U 2), .int .i64 (U 3)] 24)) (w.heap.size + 1) 24 (vArr 4 fun _ => .int .i64 0) := (Q0.out.below b5 (by omega)).alloc _
      have KS : Blk (w5.alloc (.cells #[.int .i64 (U 0), .int .i64 (U 1), .int .i64 (U 2), .int .i64 (U 3)] 24)) w.heap.size 29 #[.int .i64 (B 0), .int .i64 (B 1), .int .i64 (B 2), .int .i64 (B 3), .int .i64 (B 4), .int .i64 (B 5), .int .i64 (B 6), .int .i64 (B 7)] := (QS.out.below b5 (by omega)).alloc _
      have KU : Blk (w5.alloc (.cells #[.int .i64 (U 0), .int .i64 (U 1), .int .i64 (U 2), .int .i64 (U 3)] 24)) w5.heap.size 24 #[.int .i64 (U 0), .int .i64 (U 1), .int .i64 (U 2), .int .i64 (U 3)] := Blk.new w5 _ _
      have KB : Below w.heap.size w (w5.alloc (.cells #[.int .i64 (U 0), .int .i64 (U 1), .int .i64 (U 2), .int .i64 (U 3)] 24)) := (QB.out.trans (b5.mono (by omega))).alloc (by omega) _
      obtain ⟨h, hh⟩ : ∃ h, w5.heap.size = h := ⟨_, rfl⟩
      rw [hh] at KU hl5
      have HH := Lib.hid hh
      have Q0 := Lib.hid K0
      have QS := Lib.hid KS
      have QU := Lib.hid KU
      have QB := Lib.hid KB
      clear K0 KS KU KB b5
      go_upto_region 10 with fail
      clear hh
      generalize World.alloc _ _ = w6 at *
      obtain ⟨F, hF⟩ : ∃ F, fits B = F := ⟨_, rfl⟩
      have hEF : E = if F = true then 0 else 3 := by rw [← HE.out]; unfold bckE; rw [HNF.out, if_neg (by decide), hF]
      have hE8 : ∀ w, (Op.equalIn 10000 29 (.agg #[.int .i64 (bns U 0), .int .i64 (bns U 1), .int .i64 (bns U 2), .int .i64 (bns U 3), .int .i64 (bns U 4), .int .i64 (bns U 5), .int .i64 (bns U 6), .int .i64 (bns U 7)]) (.agg #[.int .i64 (B 0), .int .i64 (B 1), .int .i64 (B 2), .int .i64 (B 3), .int .i64 (B 4), .int .i64 (B 5), .int .i64 (B 6), .int .i64 (B 7)])).run Try.prog w = .ok F w := fun w => by
        rw [teq8 (bns U) B w, ← HU.out, fits_eq, hF]
      have HBN : Hid (vArr 8 (ptV fun i => smm (-1) (fun i => (U i, 0)) i 4) = #[.int .i64 (bns U 0), .int .i64 (bns U 1), .int .i64 (bns U 2), .int .i64 (bns U 3), .int .i64 (bns U 4), .int .i64 (bns U 5), .int .i64 (bns U 6), .int .i64 (bns U 7)]) := Lib.hid (by
        have : vArr 8 (ptV fun i => smm (-1) (fun i => (U i, 0)) i 4) = vArr 8 (bnV U) := vArr_congr fun j hj => by unfold ptV bnV; rw [bns_of U hj]
        rw [this]; rfl)
      have HVU : Hid (F = true → iArr .i64 4 V = vArr 4 fun n => .int .i64 (U n)) := Lib.hid fun hft => by
        rw [iArr_v]
        have h0 : bckE B = 0 := by rw [HE.out, hEF, if_pos hft]
        exact vArr_congr fun i _ => by rw [← HV.out, ← HU.out]; unfold bckV; rw [if_pos h0]
      have HF := Lib.hid hF
      clear hF
      have hlh : w.heap.size + 1 < h := by omega
      cases F with
      | true =>
        obtain rfl : E = 0 := hEF

        refine rg_begin (S := fun w' => Blk w' h 24 #[.int .i64 (U 0), .int .i64 (U 1), .int .i64 (U 2), .int .i64 (U 3)] ∧ Blk w' w.heap.size 29 #[.int .i64 (B 0), .int .i64 (B 1), .int .i64 (B 2), .int .i64 (B 3), .int .i64 (B 4), .int .i64 (B 5), .int .i64 (B 6), .int .i64 (B 7)] ∧ Blk w' (w.heap.size + 1) 24 (vArr 4 fun _ => .int .i64 0)) 6 #[false, false, false, false, false, false] (by kernel_rfl) (by kernel_rfl) (by kernel_rfl) ?_ (fun hHeld => ?_)
        · exact ⟨QU.out.drew_, QS.out.drew_, Q0.out.drew_⟩
        refine rg_take (i := 0) (d := some 28) (l := #[true, false, false, false, false, false]) (fuel := 5) (v := .agg #[.int .i64 (U 0), .int .i64 (U 1), .int .i64 (U 2), .int .i64 (U 3)]) rfl (by kernel_rfl) (by kernel_rfl) (by kernel_rfl) (by kernel_rfl) (by kernel_rfl) (fun _ _ _ h => h) (by kernel_rfl) ?_ (by assumption) ?_
        · (intro wS hSw; (try dsimp only at hSw); exact exec_load_row 24 (.tmp 7) rfl h rfl 24 #[.int .i64 (U 0), .int .i64 (U 1), .int .i64 (U 2), .int .i64 (U 3)] (0, 0) _ hSw.1 Try.underlying24 rfl (by kernel_rfl))
        try simp only [Act.put, List.setIfInBounds_toArray, List.set_cons_zero, List.set_cons_succ]
        refine rg_take (i := 4) (d := some 32) (l := #[true, false, false, false, true, false]) (fuel := 4) (v := .agg #[.int .i64 (B 0), .int .i64 (B 1), .int .i64 (B 2), .int .i64 (B 3), .int .i64 (B 4), .int .i64 (B 5), .int .i64 (B 6), .int .i64 (B 7)]) rfl (by kernel_rfl) (by kernel_rfl) (by kernel_rfl) (by kernel_rfl) (by kernel_rfl) (fun _ _ _ h => h) (by kernel_rfl) ?_ (by assumption) ?_
        · (intro wS hSw; (try dsimp only at hSw); exact exec_load_row 29 (.tmp 1) rfl w.heap.size rfl 29 #[.int .i64 (B 0), .int .i64 (B 1), .int .i64 (B 2), .int .i64 (B 3), .int .i64 (B 4), .int .i64 (B 5), .int .i64 (B 6), .int .i64 (B 7)] (0, 0) _ hSw.2.1 Try.underlying29 rfl (by kernel_rfl))
        try simp only [Act.put, List.setIfInBounds_toArray, List.set_cons_zero, List.set_cons_succ]
        refine rg_next (i := 1) (l := #[true, true, false, false, true, false]) (fuel := 3) (by kernel_rfl) rfl (by kernel_rfl) (by kernel_rfl) (fun K hK => ?_)
        go_simp
        (go_at_call 29)
        refine (tnumbers_any U _).mono ?_
        rintro e w7 ⟨rfl, b7⟩
        have hd := QU.out.lt
        have QU := Lib.hid (QU.out.drew_.below b7 hd)
        have QS := Lib.hid (QS.out.drew_.below b7 QS.out.lt)
        have Q0 := Lib.hid (Q0.out.drew_.below b7 Q0.out.lt)
        have QB := Lib.hid (QB.out.drew.trans (b7.mono QB.out.size))
        clear b7 hd
        first | (refine hK.out _ _ ?_ (fun hHeld => ?_)) | (go_wp2_with fail; refine hK.out _ _ ?_ (fun hHeld => ?_))
        · (try dsimp only); exact ⟨QU.out, QS.out, Q0.out⟩
        clear hK K
        try simp only [Act.put, List.setIfInBounds_toArray, List.set_cons_zero, List.set_cons_succ]
        refine rg_next (i := 2) (l := #[true, true, true, false, true, false]) (fuel := 2) (by kernel_rfl) rfl (by kernel_rfl) (by kernel_rfl) (fun K hK => ?_)
        go_simp
        (go_at_call 28)
        refine (taround_any (fun i => floatOfInt .f64 (U i)) (fun _ => 0) (fun i => (U i, 0)) (fun i hi => ⟨isI_of _ (by have := HUB.out i hi; omega), isI_zero⟩) (fun i hi => ⟨by have := HUB.out i hi; dsimp only; omega, by simp⟩) (-1) (.inr rfl) 0 13830554455654793216 isI_zero isI_m1 w7).mono ?_
        rintro e w8 ⟨⟨X, Y, rfl, hXY⟩, b8⟩
        have HXY := Lib.hid hXY
        have QU := Lib.hid (QU.out.below b8 QU.out.lt)
        have QS := Lib.hid (QS.out.below b8 QS.out.lt)
        have Q0 := Lib.hid (Q0.out.below b8 Q0.out.lt)
        have QB := Lib.hid (QB.out.trans (b8.mono QB.out.size))
        clear b8 hXY
        first | (refine hK.out _ _ ?_ (fun hHeld => ?_)) | (go_wp2_with fail; refine hK.out _ _ ?_ (fun hHeld => ?_))
        · (try dsimp only); exact ⟨QU.out, QS.out, Q0.out⟩
        clear hK K
        try simp only [Act.put, List.setIfInBounds_toArray, List.set_cons_zero, List.set_cons_succ]
        refine rg_next (i := 3) (l := #[true, true, true, true, true, false]) (fuel := 1) (by kernel_rfl) rfl (by kernel_rfl) (by kernel_rfl) (fun K hK => ?_)
        go_simp
        (go_at_call 27)
        refine (tparts_any X Y _ HXY.out w8).mono ?_
        rw [HBN.out]
        rintro e w9 ⟨rfl, b9⟩
        have QU := Lib.hid (QU.out.below b9 QU.out.lt)
        have QS := Lib.hid (QS.out.below b9 QS.out.lt)
        have Q0 := Lib.hid (Q0.out.below b9 Q0.out.lt)
        have QB := Lib.hid (QB.out.trans (b9.mono QB.out.size))
        clear b9
        first | (refine hK.out _ _ ?_ (fun hHeld => ?_)) | (go_wp2_with fail; refine hK.out _ _ ?_ (fun hHeld => ?_))
        · (try dsimp only); exact ⟨QU.out, QS.out, Q0.out⟩
        clear hK K
        try simp only [Act.put, List.setIfInBounds_toArray, List.set_cons_zero, List.set_cons_succ]
        refine rg_take (i := 5) (d := some 33) (l := #[true, true, true, true, true, true]) (fuel := 0) (v := ?_) rfl (by kernel_rfl) (by kernel_rfl) (by kernel_rfl) (by kernel_rfl) (by kernel_rfl) (fun _ _ _ h => h) (by kernel_rfl) ?_ (by assumption) ?_
        rotate_left 1
        · (intro wS hSw; (try dsimp only at hSw); go_simp; try with_reducible rfl)
        try simp only [Act.put, List.setIfInBounds_toArray, List.set_cons_zero, List.set_cons_succ]
        refine wpAnyH_done (by kernel_rfl) ?_ _
        have K0 := Q0.out
        have KU := QU.out
        have d0 : w9.cell? ⟨w.heap.size + 1, 0, none⟩ = some (.int .i64 0) := K0.cell 0
        have g0 := K0.frozen 0
        have d1 : w9.cell? ⟨w.heap.size + 1, 1, none⟩ = some (.int .i64 0) := K0.cell 1
        have g1 := K0.frozen 1
        have d2 : w9.cell? ⟨w.heap.size + 1, 2, none⟩ = some (.int .i64 0) := K0.cell 2
        have g2 := K0.frozen 2
        have d3 : w9.cell? ⟨w.heap.size + 1, 3, none⟩ = some (.int .i64 0) := K0.cell 3
        have g3 := K0.frozen 3
        have c0 : w9.cell? ⟨h, 0, none⟩ = some (.int .i64 (U 0)) := KU.cell 0
        have c1 : w9.cell? ⟨h, 1, none⟩ = some (.int .i64 (U 1)) := KU.cell 1
        have c2 : w9.cell? ⟨h, 2, none⟩ = some (.int .i64 (U 2)) := KU.cell 2
        have c3 : w9.cell? ⟨h, 3, none⟩ = some (.int .i64 (U 3)) := KU.cell 3
        clear K0 KU
        go_wp2_with fail
        refine bodyPost_ret (v := .tuple #[.agg (vArr 4 fun n => .int .i64 (U n)), .int .i64 0]) (results_cell_tmp (a := ⟨w.heap.size + 1, 0, none⟩) Try.results15 (by rfl) ((Q0.out.put4 rfl (fun n => .int .i64 (U n))).run_load Try.underlying24 rfl tinfo4) rfl) rfl ?_
        exact ⟨by rw [HVU.out (by simp)], below4 QB.out (by omega) (fun n => .int .i64 (U n))⟩
      | false =>
        obtain rfl : E = 3 := hEF

        refine rg_begin (S := fun w' => Blk w' h 24 #[.int .i64 (U 0), .int .i64 (U 1), .int .i64 (U 2), .int .i64 (U 3)] ∧ Blk w' w.heap.size 29 #[.int .i64 (B 0), .int .i64 (B 1), .int .i64 (B 2), .int .i64 (B 3), .int .i64 (B 4), .int .i64 (B 5), .int .i64 (B 6), .int .i64 (B 7)] ∧ Blk w' (w.heap.size + 1) 24 (vArr 4 fun _ => .int .i64 0)) 6 #[false, false, false, false, false, false] (by kernel_rfl) (by kernel_rfl) (by kernel_rfl) ?_ (fun hHeld => ?_)
        · exact ⟨QU.out.drew_, QS.out.drew_, Q0.out.drew_⟩
        refine rg_take (i := 0) (d := some 28) (l := #[true, false, false, false, false, false]) (fuel := 5) (v := .agg #[.int .i64 (U 0), .int .i64 (U 1), .int .i64 (U 2), .int .i64 (U 3)]) rfl (by kernel_rfl) (by kernel_rfl) (by kernel_rfl) (by kernel_rfl) (by kernel_rfl) (fun _ _ _ h => h) (by kernel_rfl) ?_ (by assumption) ?_
        · (intro wS hSw; (try dsimp only at hSw); exact exec_load_row 24 (.tmp 7) rfl h rfl 24 #[.int .i64 (U 0), .int .i64 (U 1), .int .i64 (U 2), .int .i64 (U 3)] (0, 0) _ hSw.1 Try.underlying24 rfl (by kernel_rfl))
        try simp only [Act.put, List.setIfInBounds_toArray, List.set_cons_zero, List.set_cons_succ]
        refine rg_take (i := 4) (d := some 32) (l := #[true, false, false, false, true, false]) (fuel := 4) (v := .agg #[.int .i64 (B 0), .int .i64 (B 1), .int .i64 (B 2), .int .i64 (B 3), .int .i64 (B 4), .int .i64 (B 5), .int .i64 (B 6), .int .i64 (B 7)]) rfl (by kernel_rfl) (by kernel_rfl) (by kernel_rfl) (by kernel_rfl) (by kernel_rfl) (fun _ _ _ h => h) (by kernel_rfl) ?_ (by assumption) ?_
        · (intro wS hSw; (try dsimp only at hSw); exact exec_load_row 29 (.tmp 1) rfl w.heap.size rfl 29 #[.int .i64 (B 0), .int .i64 (B 1), .int .i64 (B 2), .int .i64 (B 3), .int .i64 (B 4), .int .i64 (B 5), .int .i64 (B 6), .int .i64 (B 7)] (0, 0) _ hSw.2.1 Try.underlying29 rfl (by kernel_rfl))
        try simp only [Act.put, List.setIfInBounds_toArray, List.set_cons_zero, List.set_cons_succ]
        refine rg_next (i := 1) (l := #[true, true, false, false, true, false]) (fuel := 3) (by kernel_rfl) rfl (by kernel_rfl) (by kernel_rfl) (fun K hK => ?_)
        go_simp
        (go_at_call 29)
        refine (tnumbers_any U _).mono ?_
        rintro e w7 ⟨rfl, b7⟩
        have hd := QU.out.lt
        have QU := Lib.hid (QU.out.drew_.below b7 hd)
        have QS := Lib.hid (QS.out.drew_.below b7 QS.out.lt)
        have Q0 := Lib.hid (Q0.out.drew_.below b7 Q0.out.lt)
        have QB := Lib.hid (QB.out.drew.trans (b7.mono QB.out.size))
        clear b7 hd
        first | (refine hK.out _ _ ?_ (fun hHeld => ?_)) | (go_wp2_with fail; refine hK.out _ _ ?_ (fun hHeld => ?_))
        · (try dsimp only); exact ⟨QU.out, QS.out, Q0.out⟩
        clear hK K
        try simp only [Act.put, List.setIfInBounds_toArray, List.set_cons_zero, List.set_cons_succ]
        refine rg_next (i := 2) (l := #[true, true, true, false, true, false]) (fuel := 2) (by kernel_rfl) rfl (by kernel_rfl) (by kernel_rfl) (fun K hK => ?_)
        go_simp
        (go_at_call 28)
        refine (taround_any (fun i => floatOfInt .f64 (U i)) (fun _ => 0) (fun i => (U i, 0)) (fun i hi => ⟨isI_of _ (by have := HUB.out i hi; omega), isI_zero⟩) (fun i hi => ⟨by have := HUB.out i hi; dsimp only; omega, by simp⟩) (-1) (.inr rfl) 0 13830554455654793216 isI_zero isI_m1 w7).mono ?_
        rintro e w8 ⟨⟨X, Y, rfl, hXY⟩, b8⟩
        have HXY := Lib.hid hXY
        have QU := Lib.hid (QU.out.below b8 QU.out.lt)
        have QS := Lib.hid (QS.out.below b8 QS.out.lt)
        have Q0 := Lib.hid (Q0.out.below b8 Q0.out.lt)
        have QB := Lib.hid (QB.out.trans (b8.mono QB.out.size))
        clear b8 hXY
        first | (refine hK.out _ _ ?_ (fun hHeld => ?_)) | (go_wp2_with fail; refine hK.out _ _ ?_ (fun hHeld => ?_))
        · (try dsimp only); exact ⟨QU.out, QS.out, Q0.out⟩
        clear hK K
        try simp only [Act.put, List.setIfInBounds_toArray, List.set_cons_zero, List.set_cons_succ]
        refine rg_next (i := 3) (l := #[true, true, true, true, true, false]) (fuel := 1) (by kernel_rfl) rfl (by kernel_rfl) (by kernel_rfl) (fun K hK => ?_)
        go_simp
        (go_at_call 27)
        refine (tparts_any X Y _ HXY.out w8).mono ?_
        rw [HBN.out]
        rintro e w9 ⟨rfl, b9⟩
        have QU := Lib.hid (QU.out.below b9 QU.out.lt)
        have QS := Lib.hid (QS.out.below b9 QS.out.lt)
        have Q0 := Lib.hid (Q0.out.below b9 Q0.out.lt)
        have QB := Lib.hid (QB.out.trans (b9.mono QB.out.size))
        clear b9
        first | (refine hK.out _ _ ?_ (fun hHeld => ?_)) | (go_wp2_with fail; refine hK.out _ _ ?_ (fun hHeld => ?_))
        · (try dsimp only); exact ⟨QU.out, QS.out, Q0.out⟩
        clear hK K
        try simp only [Act.put, List.setIfInBounds_toArray, List.set_cons_zero, List.set_cons_succ]
        refine rg_take (i := 5) (d := some 33) (l := #[true, true, true, true, true, true]) (fuel := 0) (v := ?_) rfl (by kernel_rfl) (by kernel_rfl) (by kernel_rfl) (by kernel_rfl) (by kernel_rfl) (fun _ _ _ h => h) (by kernel_rfl) ?_ (by assumption) ?_
        rotate_left 1
        · (intro wS hSw; (try dsimp only at hSw); go_simp; try with_reducible rfl)
        try simp only [Act.put, List.setIfInBounds_toArray, List.set_cons_zero, List.set_cons_succ]
        refine wpAnyH_done (by kernel_rfl) ?_ _
        have K0 := Q0.out
        have d0 : w9.cell? ⟨w.heap.size + 1, 0, none⟩ = some (.int .i64 0) := K0.cell 0
        have g0 := K0.frozen 0
        have d1 : w9.cell? ⟨w.heap.size + 1, 1, none⟩ = some (.int .i64 0) := K0.cell 1
        have g1 := K0.frozen 1
        have d2 : w9.cell? ⟨w.heap.size + 1, 2, none⟩ = some (.int .i64 0) := K0.cell 2
        have g2 := K0.frozen 2
        have d3 : w9.cell? ⟨w.heap.size + 1, 3, none⟩ = some (.int .i64 0) := K0.cell 3
        have g3 := K0.frozen 3
        clear K0
        go_wp2_with fail
        refine bodyPost_ret (v := .tuple #[.agg (vArr 4 fun _ => .int .i64 0), .int .i64 3]) (results_cell_tmp (a := ⟨w.heap.size + 1, 0, none⟩) Try.results15 (by rfl) ((Q0.out.put4 rfl (fun _ => .int .i64 0)).run_load Try.underlying24 rfl tinfo4) rfl) rfl ?_
        exact ⟨by rw [HZ.out (by decide)], below4 QB.out (by omega) (fun _ => .int .i64 0)⟩
end Go.Proofs.Ytnelcbbjnpaodaa
