/-
  Layer 17: Round.
-/
import Derived.Test.YtnelcbbjnpaodaaTrn7
import Derived.Test.YtnelcbbjnpaodaaG26
namespace Go.Proofs.Ytnelcbbjnpaodaa
open Go.RowKit
set_option linter.unusedVariables false
set_option linter.unusedSimpArgs false
set_option maxRecDepth 100000
attribute [local go_sem] run_store_complex
/-- What two rows of four make, laid over one another all around. -/
def cnv (a b : Nat → Int) (n : Nat) : Int := match n with
  | 0 => a 0 * b 0 + a 1 * b 3 + a 2 * b 2 + a 3 * b 1
  | 1 => a 0 * b 1 + a 1 * b 0 + a 2 * b 3 + a 3 * b 2
  | 2 => a 0 * b 2 + a 1 * b 1 + a 2 * b 0 + a 3 * b 3
  | _ => a 0 * b 3 + a 1 * b 2 + a 2 * b 1 + a 3 * b 0
def rndE (a b : Nat → Int) : Int := if farB a 262144 4 = true then 1 else if farB b 262144 4 = true then 1 else 0
def rndV (a b : Nat → Int) (n : Nat) : Int := if rndE a b = 0 then cnv a b n else 0
/-- What there is of each, multiplied. -/
def bth (a b : Nat → Int) (k : Nat) : Int × Int := cml (smm (-1) (fun i => (a i, 0)) k 4) (smm (-1) (fun i => (b i, 0)) k 4)
theorem cnv_of (a b : Nat → Int) {n : Nat} (hn : n < 4) : Int.tdiv (smm 1 (bth a b) n 4).1 4 = cnv a b n := by
  obtain ⟨a0, a1, a2, a3⟩ := smm_on fun i => (a i, 0)
  obtain ⟨b0, b1, b2, b3⟩ := smm_on fun i => (b i, 0)
  have c0 : bth a b 0 = cml (smm (-1) (fun i => (a i, 0)) 0 4) (smm (-1) (fun i => (b i, 0)) 0 4) := rfl
  rw [a0, b0] at c0
  have c1 : bth a b 1 = cml (smm (-1) (fun i => (a i, 0)) 1 4) (smm (-1) (fun i => (b i, 0)) 1 4) := rfl
  rw [a1, b1] at c1
  have c2 : bth a b 2 = cml (smm (-1) (fun i => (a i, 0)) 2 4) (smm (-1) (fun i => (b i, 0)) 2 4) := rfl
  rw [a2, b2] at c2
  have c3 : bth a b 3 = cml (smm (-1) (fun i => (a i, 0)) 3 4) (smm (-1) (fun i => (b i, 0)) 3 4) := rfl
  rw [a3, b3] at c3
  obtain ⟨h0, h1, h2, h3⟩ := smm_back (bth a b)
  have : n = 0 ∨ n = 1 ∨ n = 2 ∨ n = 3 := by omega
  have key : (smm 1 (bth a b) n 4).1 = 4 * cnv a b n := by
    rcases this with rfl | rfl | rfl | rfl
    · rw [h0, c0, c1, c2, c3]; simp only [cml, cnv, Int.add_mul, Int.mul_add, Int.sub_mul, Int.mul_sub, Int.mul_zero, Int.zero_mul, Int.add_zero, Int.sub_zero, Int.zero_add, Int.zero_sub, Int.mul_neg, Int.neg_mul]; omega
    · rw [h1, c0, c1, c2, c3]; simp only [cml, cnv, Int.add_mul, Int.mul_add, Int.sub_mul, Int.mul_sub, Int.mul_zero, Int.zero_mul, Int.add_zero, Int.sub_zero, Int.zero_add, Int.zero_sub, Int.mul_neg, Int.neg_mul]; omega
    · rw [h2, c0, c1, c2, c3]; simp only [cml, cnv, Int.add_mul, Int.mul_add, Int.sub_mul, Int.mul_sub, Int.mul_zero, Int.zero_mul, Int.add_zero, Int.sub_zero, Int.zero_add, Int.zero_sub, Int.mul_neg, Int.neg_mul]; omega
    · rw [h3, c0, c1, c2, c3]; simp only [cml, cnv, Int.add_mul, Int.mul_add, Int.sub_mul, Int.mul_sub, Int.mul_zero, Int.zero_mul, Int.add_zero, Int.sub_zero, Int.zero_add, Int.zero_sub, Int.mul_neg, Int.neg_mul]; omega
  rw [key, Int.mul_tdiv_cancel_left _ (by decide)]
theorem tmul_le {x y : Int} {M N : Nat} (h1 : x.natAbs ≤ M) (h2 : y.natAbs ≤ N) : (x * y).natAbs ≤ M * N := by rw [Int.natAbs_mul]; exact Nat.mul_le_mul h1 h2
theorem cml_bd {x y : Int × Int} {M N : Nat} (a : x.1.natAbs ≤ M) (b : x.2.natAbs ≤ M) (c : y.1.natAbs ≤ N) (d : y.2.natAbs ≤ N) : (x.1 * y.1).natAbs ≤ M * N ∧ (x.2 * y.2).natAbs ≤ M * N ∧ (x.1 * y.2).natAbs ≤ M * N ∧ (x.2 * y.1).natAbs ≤ M * N ∧ (cml x y).1.natAbs ≤ 2 * (M * N) ∧ (cml x y).2.natAbs ≤ 2 * (M * N) := by
  have h1 := tmul_le a c
  have h2 := tmul_le b d
  have h3 := tmul_le a d
  have h4 := tmul_le b c
  refine ⟨h1, h2, h3, h4, ?_, ?_⟩
  · show (x.1 * y.1 - x.2 * y.2).natAbs ≤ _; omega
  · show (x.1 * y.2 + x.2 * y.1).natAbs ≤ _; omega
theorem tzero4c (w : World) : (zeroValue 54).run Try.prog w = .ok (.agg #[.complex .f64 0 0, .complex .f64 0 0, .complex .f64 0 0, .complex .f64 0 0]) w := (zero_of_info (show (Try.prog.info? 54).map (fun i => (i.zero, i.size)) = some (some (.agg #[.complex .f64 0 0, .complex .f64 0 0, .complex .f64 0 0, .complex .f64 0 0]), 4) by kernel_rfl)).1 w
theorem tlen2 {α : Type} {l : List α} (h : l.length = 2) : ∃ a b, l = [a, b] := by
  match l, h with
  | [a, b], _ => exact ⟨a, b, rfl⟩
set_option maxHeartbeats 8000000 in
theorem tround_any (f g : Nat → Int) (hWf : ∀ i, i < 4 → (Lit.int .i64 (f i)).wf = true) (hWg : ∀ i, i < 4 → (Lit.int .i64 (g i)).wf = true) (w : World) :
    Calls Try.prog 17 #[.agg #[.int .i64 (f 0), .int .i64 (f 1), .int .i64 (f 2), .int .i64 (f 3)], .agg #[.int .i64 (g 0), .int .i64 (g 1), .int .i64 (g 2), .int .i64 (g 3)]] w fun e w' => e = .returned (.tuple #[.agg (iArr .i64 4 (rndV f g)), .int .i64 (rndE f g)]) ∧ Below w.heap.size w w' := by
  obtain ⟨E, hE⟩ : ∃ E, rndE f g = E := ⟨_, rfl⟩
  obtain ⟨V, hV⟩ : ∃ V, rndV f g = V := ⟨_, rfl⟩
  rw [hE, hV]
  have HE := Lib.hid hE
  have HV := Lib.hid hV
  have HZ : Hid (E ≠ 0 → iArr .i64 4 V = vArr 4 fun _ => .int .i64 0) := Lib.hid fun he => by
    rw [iArr_v]
    exact vArr_congr fun i _ => by rw [← HV.out]; unfold rndV; rw [hE, if_neg he]
  have hqa : Blk (((w.alloc (.cells #[.int .i64 (f 0), .int .i64 (f 1), .int .i64 (f 2), .int .i64 (f 3)] 24)).alloc (.cells #[.int .i64 (g 0), .int .i64 (g 1), .int .i64 (g 2), .int .i64 (g 3)] 24)).alloc (.cells #[.int .i64 0, .int .i64 0, .int .i64 0, .int .i64 0] 24)) w.heap.size 24 #[.int .i64 (f 0), .int .i64 (f 1), .int .i64 (f 2), .int .i64 (f 3)] := Blk.alloc (Blk.alloc (Blk.new_ rfl) _) _
  have hqb : Blk (((w.alloc (.cells #[.int .i64 (f 0), .int .i64 (f 1), .int .i64 (f 2), .int .i64 (f 3)] 24)).alloc (.cells #[.int .i64 (g 0), .int .i64 (g 1), .int .i64 (g 2), .int .i64 (g 3)] 24)).alloc (.cells #[.int .i64 0, .int .i64 0, .int .i64 0, .int .i64 0] 24)) (w.heap.size + 1) 24 #[.int .i64 (g 0), .int .i64 (g 1), .int .i64 (g 2), .int .i64 (g 3)] := Blk.alloc (Blk.new_ (by simp)) _
  have hq0 : Blk (((w.alloc (.cells #[.int .i64 (f 0), .int .i64 (f 1), .int .i64 (f 2), .int .i64 (f 3)] 24)).alloc (.cells #[.int .i64 (g 0), .int .i64 (g 1), .int .i64 (g 2), .int .i64 (g 3)] 24)).alloc (.cells #[.int .i64 0, .int .i64 0, .int .i64 0, .int .i64 0] 24)) (w.heap.size + 1 + 1) 24 (vArr 4 fun _ => .int .i64 0) := Blk.new_ (by simp)
  have hB : Below w.heap.size w (((w.alloc (.cells #[.int .i64 (f 0), .int .i64 (f 1), .int .i64 (f 2), .int .i64 (f 3)] 24)).alloc (.cells #[.int .i64 (g 0), .int .i64 (g 1), .int .i64 (g 2), .int .i64 (g 3)] 24)).alloc (.cells #[.int .i64 0, .int .i64 0, .int .i64 0, .int .i64 0] 24)) := (((Below.refl _ w).alloc (Nat.le_refl _) _).alloc (by simp) _).alloc (by simp; omega) _
  have QA := Lib.hid hqa
  have QG := Lib.hid hqb
  have Q0 := Lib.hid hq0
  have QB := Lib.hid hB
  have HIF : Hid (IRow (((w.alloc (.cells #[.int .i64 (f 0), .int .i64 (f 1), .int .i64 (f 2), .int .i64 (f 3)] 24)).alloc (.cells #[.int .i64 (g 0), .int .i64 (g 1), .int .i64 (g 2), .int .i64 (g 3)] 24)).alloc (.cells #[.int .i64 0, .int .i64 0, .int .i64 0, .int .i64 0] 24)) .i64 (some ⟨w.heap.size, 0, none⟩) 4 f) := Lib.hid (irow_blk (k := .i64) (n := 4) (z := f) hqa hWf)
  have HIG : Hid (IRow (((w.alloc (.cells #[.int .i64 (f 0), .int .i64 (f 1), .int .i64 (f 2), .int .i64 (f 3)] 24)).alloc (.cells #[.int .i64 (g 0), .int .i64 (g 1), .int .i64 (g 2), .int .i64 (g 3)] 24)).alloc (.cells #[.int .i64 0, .int .i64 0, .int .i64 0, .int .i64 0] 24)) .i64 (some ⟨w.heap.size + 1, 0, none⟩) 4 g) := Lib.hid (irow_blk (k := .i64) (n := 4) (z := g) hqb hWg)
  obtain ⟨FF, hFF⟩ : ∃ F, farB f 262144 4 = F := ⟨_, rfl⟩
  obtain ⟨FG, hFG⟩ : ∃ F, farB g 262144 4 = F := ⟨_, rfl⟩
  have HFF := Lib.hid hFF
  have HFG := Lib.hid hFG
  have hEE : E = if FF = true then 1 else if FG = true then 1 else 0 := by rw [← hE]; unfold rndE; rw [hFF, hFG]
  clear hqa hqb hq0 hB hE hV hFF hFG hWf hWg
  cases FF with
  | true =>
    obtain rfl : E = 1 := hEE
    go_enter Try.func17, Try.ntmps17
    go_wp2_with fail
    generalize World.alloc _ _ = w3 at *
    refine (tbeyond_any HIF.out (by decide) 262144 (by decide) (by decide)).mono ?_
    rw [HFF.out]
    rintro e w' ⟨rfl, rfl⟩
    have K0 := Q0.out
    have d0 : w3.cell? ⟨w.heap.size + 1 + 1, 0, none⟩ = some (.int .i64 0) := K0.cell 0
    have g0 := K0.frozen 0
    have d1 : w3.cell? ⟨w.heap.size + 1 + 1, 1, none⟩ = some (.int .i64 0) := K0.cell 1
    have g1 := K0.frozen 1
    have d2 : w3.cell? ⟨w.heap.size + 1 + 1, 2, none⟩ = some (.int .i64 0) := K0.cell 2
    have g2 := K0.frozen 2
    have d3 : w3.cell? ⟨w.heap.size + 1 + 1, 3, none⟩ = some (.int .i64 0) := K0.cell 3
    have g3 := K0.frozen 3
    clear K0
    go_wp2_with fail
    refine bodyPost_ret (v := .tuple #[.agg (vArr 4 fun _ => .int .i64 0), .int .i64 1]) (results_cell_tmp (a := ⟨w.heap.size + 1 + 1, 0, none⟩) Try.results17 (by rfl) ((Q0.out.put4 rfl (fun _ => .int .i64 0)).run_load Try.underlying24 rfl tinfo4) rfl) rfl ?_
    exact ⟨by rw [HZ.out (by decide)], below4 QB.out (by omega) (fun _ => .int .i64 0)⟩
  | false =>
  cases FG with
  | true =>
    obtain rfl : E = 1 := hEE
    go_enter Try.func17, Try.ntmps17
    go_wp2_with fail
    generalize World.alloc _ _ = w3 at *
    refine (tbeyond_any HIF.out (by decide) 262144 (by decide) (by decide)).mono ?_
    rw [HFF.out]
    rintro e w' ⟨rfl, rfl⟩
    go_wp2_with fail
    refine (tbeyond_any HIG.out (by decide) 262144 (by decide) (by decide)).mono ?_
    rw [HFG.out]
    rintro e w' ⟨rfl, rfl⟩
    have K0 := Q0.out
    have d0 : w3.cell? ⟨w.heap.size + 1 + 1, 0, none⟩ = some (.int .i64 0) := K0.cell 0
    have g0 := K0.frozen 0
    have d1 : w3.cell? ⟨w.heap.size + 1 + 1, 1, none⟩ = some (.int .i64 0) := K0.cell 1
    have g1 := K0.frozen 1
    have d2 : w3.cell? ⟨w.heap.size + 1 + 1, 2, none⟩ = some (.int .i64 0) := K0.cell 2
    have g2 := K0.frozen 2
    have d3 : w3.cell? ⟨w.heap.size + 1 + 1, 3, none⟩ = some (.int .i64 0) := K0.cell 3
    have g3 := K0.frozen 3
    clear K0
    go_wp2_with fail
    refine bodyPost_ret (v := .tuple #[.agg (vArr 4 fun _ => .int .i64 0), .int .i64 1]) (results_cell_tmp (a := ⟨w.heap.size + 1 + 1, 0, none⟩) Try.results17 (by rfl) ((Q0.out.put4 rfl (fun _ => .int .i64 0)).run_load Try.underlying24 rfl tinfo4) rfl) rfl ?_
    exact ⟨by rw [HZ.out (by decide)], below4 QB.out (by omega) (fun _ => .int .i64 0)⟩
  | false =>
  obtain rfl : E = 0 := hEE
  go_enter Try.func17, Try.ntmps17
  go_wp2_with fail
  generalize World.alloc _ _ = w3 at *
  refine (tbeyond_any HIF.out (by decide) 262144 (by decide) (by decide)).mono ?_
  rw [HFF.out]
  rintro e w' ⟨rfl, rfl⟩
  go_wp2_with fail
  refine (tbeyond_any HIG.out (by decide) 262144 (by decide) (by decide)).mono ?_
  rw [HFG.out]
  rintro e w' ⟨rfl, rfl⟩
  have HNF := Lib.hid (farB_not.1 HFF.out)
  have HNG := Lib.hid (farB_not.1 HFG.out)
  have HBF : Hid (∀ i, i < 4 → (f i).natAbs ≤ 262144) := Lib.hid fun i hi => by have := HNF.out i hi; omega
  have HBG : Hid (∀ i, i < 4 → (g i).natAbs ≤ 262144) := Lib.hid fun i hi => by have := HNG.out i hi; omega
  go_wp2_with fail
  refine rg_begin (S := fun w' => Blk w' w.heap.size 24 #[.int .i64 (f 0), .int .i64 (f 1), .int .i64 (f 2), .int .i64 (f 3)] ∧ Blk w' (w.heap.size + 1) 24 #[.int .i64 (g 0), .int .i64 (g 1), .int .i64 (g 2), .int .i64 (g 3)] ∧ Blk w' (w.heap.size + 1 + 1) 24 (vArr 4 fun _ => .int .i64 0) ∧ Below w.heap.size w w' ∧ w.heap.size + 1 + 1 < w'.heap.size) 10 #[false, false, false, false, false, false, false, false, false, false] (by kernel_rfl) (by kernel_rfl) (by kernel_rfl) ?_ (fun hHeld => ?_)
  · exact ⟨QA.out.drew_, QG.out.drew_, Q0.out.drew_, QB.out.drew, Q0.out.lt⟩
  refine rg_take (i := 0) (d := some 16) (l := #[true, false, false, false, false, false, false, false, false, false]) (fuel := 9) (v := .agg #[.int .i64 (f 0), .int .i64 (f 1), .int .i64 (f 2), .int .i64 (f 3)]) rfl (by kernel_rfl) (by kernel_rfl) (by kernel_rfl) (by kernel_rfl) (by kernel_rfl) (fun _ _ _ h => h) (by kernel_rfl) ?_ (by assumption) ?_
  · (intro wS hSw; (try dsimp only at hSw); exact exec_load_row 24 (.tmp 2) rfl w.heap.size rfl 24 #[.int .i64 (f 0), .int .i64 (f 1), .int .i64 (f 2), .int .i64 (f 3)] (0, 0) _ hSw.1 Try.underlying24 rfl (by kernel_rfl))
  try simp only [Act.put, List.setIfInBounds_toArray, List.set_cons_zero, List.set_cons_succ]
  refine rg_take (i := 3) (d := some 19) (l := #[true, false, false, true, false, false, false, false, false, false]) (fuel := 8) (v := .agg #[.int .i64 (g 0), .int .i64 (g 1), .int .i64 (g 2), .int .i64 (g 3)]) rfl (by kernel_rfl) (by kernel_rfl) (by kernel_rfl) (by kernel_rfl) (by kernel_rfl) (fun _ _ _ h => h) (by kernel_rfl) ?_ (by assumption) ?_
  · (intro wS hSw; (try dsimp only at hSw); exact exec_load_row 24 (.tmp 3) rfl (w.heap.size + 1) rfl 24 #[.int .i64 (g 0), .int .i64 (g 1), .int .i64 (g 2), .int .i64 (g 3)] (0, 0) _ hSw.2.1 Try.underlying24 rfl (by kernel_rfl))
  try simp only [Act.put, List.setIfInBounds_toArray, List.set_cons_zero, List.set_cons_succ]
  have hS : ∀ w1 w2, (fun w' => Blk w' w.heap.size 24 #[.int .i64 (f 0), .int .i64 (f 1), .int .i64 (f 2), .int .i64 (f 3)] ∧ Blk w' (w.heap.size + 1) 24 #[.int .i64 (g 0), .int .i64 (g 1), .int .i64 (g 2), .int .i64 (g 3)] ∧ Blk w' (w.heap.size + 1 + 1) 24 (vArr 4 fun _ => .int .i64 0) ∧ Below w.heap.size w w' ∧ w.heap.size + 1 + 1 < w'.heap.size) w1 → Below w1.heap.size w1 w2 → (fun w' => Blk w' w.heap.size 24 #[.int .i64 (f 0), .int .i64 (f 1), .int .i64 (f 2), .int .i64 (f 3)] ∧ Blk w' (w.heap.size + 1) 24 #[.int .i64 (g 0), .int .i64 (g 1), .int .i64 (g 2), .int .i64 (g 3)] ∧ Blk w' (w.heap.size + 1 + 1) 24 (vArr 4 fun _ => .int .i64 0) ∧ Below w.heap.size w w' ∧ w.heap.size + 1 + 1 < w'.heap.size) w2 :=
    fun w1 w2 h hb => ⟨h.1.below hb h.1.lt, h.2.1.below hb h.2.1.lt, h.2.2.1.below hb h.2.2.1.lt, h.2.2.2.1.trans (hb.mono h.2.2.2.1.size), Nat.lt_of_lt_of_le h.2.2.2.2 hb.size⟩
  refine RgC.start (B := w.heap.size) (w0 := w) (fuel := 6) [⟨6, 6, 54, #[.complex .f64 0 0, .complex .f64 0 0, .complex .f64 0 0, .complex .f64 0 0], undef⟩, ⟨7, 7, 54, #[.complex .f64 0 0, .complex .f64 0 0, .complex .f64 0 0, .complex .f64 0 0], undef⟩] ?_ (by kernel_rfl) (by rfl) rfl QB.out.drew QB.out.size (by assumption)
  refine RgC.call (fuel := 5) (j := 1) (d := 17) (V := fun v => v = .agg (vArr 4 (nmV f))) rfl rfl rfl (by kernel_rfl) (fun x hx => by simp only [List.mem_cons, List.not_mem_nil, or_false] at hx; rcases hx with rfl | rfl <;> exact AlOk.of rfl rfl rfl rfl tzero4c rfl) hS (by decide) (by decide) (by kernel_rfl) ?_ ?_
  · intro os wq hF hSq K hK
    obtain ⟨o0, o1, rfl⟩ := tlen2 hF.1
    clear hF
    simp only [putO, Act.put, List.setIfInBounds_toArray, List.set_cons_zero, List.set_cons_succ] at hK ⊢
    generalize AlS.val _ o0 = v0 at *
    generalize AlS.val _ o1 = v1 at *
    go_simp
    go_at_call 29
    refine (tnumbers_any f wq).mono ?_
    rintro e w1 ⟨rfl, b1⟩
    exact hK.out _ _ rfl b1
  rintro _ rfl
  refine RgC.call (fuel := 4) (j := 2) (d := 18) (V := fun v => ∃ X Y : Nat → Nat, v = .agg #[.complex .f64 (X 0) (Y 0), .complex .f64 (X 1) (Y 1), .complex .f64 (X 2) (Y 2), .complex .f64 (X 3) (Y 3)] ∧ ∀ i, i < 4 → IsI (X i) (smm (-1) (fun i => (f i, 0)) i 4).1 ∧ IsI (Y i) (smm (-1) (fun i => (f i, 0)) i 4).2) rfl rfl rfl (by kernel_rfl) (fun x hx => by simp only [List.mem_cons, List.not_mem_nil, or_false] at hx; rcases hx with rfl | rfl <;> exact AlOk.of rfl rfl rfl rfl tzero4c rfl) hS (by decide) (by decide) (by kernel_rfl) ?_ ?_
  · intro os wq hF hSq K hK
    obtain ⟨o0, o1, rfl⟩ := tlen2 hF.1
    clear hF
    simp only [putO, Act.put, List.setIfInBounds_toArray, List.set_cons_zero, List.set_cons_succ] at hK ⊢
    generalize AlS.val _ o0 = v0 at *
    generalize AlS.val _ o1 = v1 at *
    go_simp
    go_at_call 28
    refine (taround_any (fun i => floatOfInt .f64 (f i)) (fun _ => 0) (fun i => (f i, 0)) (fun i hi => ⟨isI_of _ (by have := HBF.out i hi; omega), isI_zero⟩) (fun i hi => ⟨by have := HBF.out i hi; dsimp only; omega, by simp⟩) (-1) (.inr rfl) 0 13830554455654793216 isI_zero isI_m1 wq).mono ?_
    rintro e w1 ⟨⟨X, Y, rfl, hXY⟩, b1⟩
    exact hK.out _ _ ⟨X, Y, rfl, hXY⟩ b1
  rintro _ ⟨X, Y, rfl, hXY⟩
  have HXY := Lib.hid hXY
  clear hXY
  refine RgC.call (fuel := 3) (j := 4) (d := 20) (V := fun v => v = .agg (vArr 4 (nmV g))) rfl rfl rfl (by kernel_rfl) (fun x hx => by simp only [List.mem_cons, List.not_mem_nil, or_false] at hx; rcases hx with rfl | rfl <;> exact AlOk.of rfl rfl rfl rfl tzero4c rfl) hS (by decide) (by decide) (by kernel_rfl) ?_ ?_
  · intro os wq hF hSq K hK
    obtain ⟨o0, o1, rfl⟩ := tlen2 hF.1
    clear hF
    simp only [putO, Act.put, List.setIfInBounds_toArray, List.set_cons_zero, List.set_cons_succ] at hK ⊢
    generalize AlS.val _ o0 = v0 at *
    generalize AlS.val _ o1 = v1 at *
    go_simp
    go_at_call 29
    refine (tnumbers_any g wq).mono ?_
    rintro e w1 ⟨rfl, b1⟩
    exact hK.out _ _ rfl b1
  rintro _ rfl
  refine RgC.call (fuel := 2) (j := 5) (d := 21) (V := fun v => ∃ X Y : Nat → Nat, v = .agg #[.complex .f64 (X 0) (Y 0), .complex .f64 (X 1) (Y 1), .complex .f64 (X 2) (Y 2), .complex .f64 (X 3) (Y 3)] ∧ ∀ i, i < 4 → IsI (X i) (smm (-1) (fun i => (g i, 0)) i 4).1 ∧ IsI (Y i) (smm (-1) (fun i => (g i, 0)) i 4).2) rfl rfl rfl (by kernel_rfl) (fun x hx => by simp only [List.mem_cons, List.not_mem_nil, or_false] at hx; rcases hx with rfl | rfl <;> exact AlOk.of rfl rfl rfl rfl tzero4c rfl) hS (by decide) (by decide) (by kernel_rfl) ?_ ?_
  · intro os wq hF hSq K hK
    obtain ⟨o0, o1, rfl⟩ := tlen2 hF.1
    clear hF
    simp only [putO, Act.put, List.setIfInBounds_toArray, List.set_cons_zero, List.set_cons_succ] at hK ⊢
    generalize AlS.val _ o0 = v0 at *
    generalize AlS.val _ o1 = v1 at *
    go_simp
    go_at_call 28
    refine (taround_any (fun i => floatOfInt .f64 (g i)) (fun _ => 0) (fun i => (g i, 0)) (fun i hi => ⟨isI_of _ (by have := HBG.out i hi; omega), isI_zero⟩) (fun i hi => ⟨by have := HBG.out i hi; dsimp only; omega, by simp⟩) (-1) (.inr rfl) 0 13830554455654793216 isI_zero isI_m1 wq).mono ?_
    rintro e w1 ⟨⟨X, Y, rfl, hXY⟩, b1⟩
    exact hK.out _ _ ⟨X, Y, rfl, hXY⟩ b1
  rintro _ ⟨X2, Y2, rfl, hXY2⟩
  have HXY2 := Lib.hid hXY2
  clear hXY2
  refine RgC.fin (by kernel_rfl) (fun x hx => by simp only [List.mem_cons, List.not_mem_nil, or_false] at hx; rcases hx with rfl | rfl <;> exact AlOk.of rfl rfl rfl rfl tzero4c rfl) hS (by decide) (by decide) ?_
  intro gs w4 hF hS4
  obtain ⟨g0, g1, rfl⟩ := tlen2 (l := gs) (by simpa using hF.1)
  obtain ⟨B0, l0⟩ := hF.2.1 0 _ g0 rfl rfl
  obtain ⟨B1, l1⟩ := hF.2.1 1 _ g1 rfl rfl
  have hne : g0 ≠ g1 := fun e => by
    have := hF.2.2.1 0 1 g0 rfl (by rw [e]; rfl)
    cases this
  dsimp only at B0 B1
  clear hF
  simp only [putO, markB, AlS.val, List.map_cons, List.map_nil, List.length_cons, List.length_nil, List.replicate_succ, List.replicate_zero, Act.put, List.setIfInBounds_toArray, List.set_cons_zero, List.set_cons_succ]
  have c0 : w4.cell? ⟨g0, 0, none⟩ = some (.complex .f64 0 0) := B0.cell 0
  have f0 := B0.frozen 0
  have c1 : w4.cell? ⟨g0, 1, none⟩ = some (.complex .f64 0 0) := B0.cell 1
  have f1 := B0.frozen 1
  have c2 : w4.cell? ⟨g0, 2, none⟩ = some (.complex .f64 0 0) := B0.cell 2
  have f2 := B0.frozen 2
  have c3 : w4.cell? ⟨g0, 3, none⟩ = some (.complex .f64 0 0) := B0.cell 3
  have f3 := B0.frozen 3
  have n0 : w.heap.size ≠ g0 := hS4.1.ne_ B0 (by decide)
  have n1 : w.heap.size + 1 ≠ g0 := hS4.2.1.ne_ B0 (by decide)
  have n2 : w.heap.size + 1 + 1 ≠ g0 := hS4.2.2.1.ne_ B0 (by decide)
  have n3 : w.heap.size ≠ g1 := hS4.1.ne_ B1 (by decide)
  have n4 : w.heap.size + 1 ≠ g1 := hS4.2.1.ne_ B1 (by decide)
  have n5 : w.heap.size + 1 + 1 ≠ g1 := hS4.2.2.1.ne_ B1 (by decide)
  have HN := Lib.hid (And.intro n0 (And.intro n1 (And.intro n2 (And.intro n3 (And.intro n4 n5)))))
  have HB0 := Lib.hid B0
  have HB1 := Lib.hid B1
  have HS4 := Lib.hid hS4
  clear n0 n1 n2 n3 n4 n5 B0 B1
  refine rg_next (i := 8) (l := #[true, true, true, true, true, true, true, true, true, false]) (fuel := 1) (by kernel_rfl) rfl (by kernel_rfl) (by kernel_rfl) (fun K hK => ?_)
  go_simp
  refine hK.out _ _ ?_ (fun hHeld => ?_)
  · exact ⟨HS4.out.1.far4 HN.out.1 fun i => tcz (X i) (Y i), HS4.out.2.1.far4 HN.out.2.1 fun i => tcz (X i) (Y i), HS4.out.2.2.1.far4 HN.out.2.2.1 fun i => tcz (X i) (Y i), below4 HS4.out.2.2.2.1 l0 fun i => tcz (X i) (Y i), by have := HS4.out.2.2.2.2; simpa [World.setCell] using this⟩
  clear hK K c0 f0 c1 f1 c2 f2 c3 f3
  have HB0 := Lib.hid (HB0.out.put4 rfl fun i => tcz (X i) (Y i))
  have B1 := HB1.out.far4 (Ne.symm hne) fun i => tcz (X i) (Y i)
  try simp only [Act.put, List.setIfInBounds_toArray, List.set_cons_zero, List.set_cons_succ]
  have hw5 : ∃ w5, Go.Proofs.Ytnelcbbjnpaodaa.put4 w4 g0 (fun i => tcz (X i) (Y i)) = w5 := ⟨_, rfl⟩
  obtain ⟨w5, hw5⟩ := hw5
  unfold Go.Proofs.Ytnelcbbjnpaodaa.put4 tcz at hw5
  rw [hw5] at hHeld ⊢
  replace HS4 := Lib.hid hHeld
  have HB0 : Hid (Blk w5 g0 54 (vArr 4 fun i => tcz (X i) (Y i))) := Lib.hid (hw5 ▸ HB0.out)
  have B1 : Blk w5 g1 54 #[.complex .f64 0 0, .complex .f64 0 0, .complex .f64 0 0, .complex .f64 0 0] := hw5 ▸ B1
  have c0 : w5.cell? ⟨g1, 0, none⟩ = some (.complex .f64 0 0) := B1.cell 0
  have f0 := B1.frozen 0
  have c1 : w5.cell? ⟨g1, 1, none⟩ = some (.complex .f64 0 0) := B1.cell 1
  have f1 := B1.frozen 1
  have c2 : w5.cell? ⟨g1, 2, none⟩ = some (.complex .f64 0 0) := B1.cell 2
  have f2 := B1.frozen 2
  have c3 : w5.cell? ⟨g1, 3, none⟩ = some (.complex .f64 0 0) := B1.cell 3
  have f3 := B1.frozen 3
  have HB1 := Lib.hid B1
  clear B1 hw5
  refine rg_next (i := 9) (l := #[true, true, true, true, true, true, true, true, true, true]) (fuel := 0) (by kernel_rfl) rfl (by kernel_rfl) (by kernel_rfl) (fun K hK => ?_)
  go_simp
  refine hK.out _ _ ?_ (fun hHeld => ?_)
  · exact ⟨HS4.out.1.far4 HN.out.2.2.2.1 fun i => tcz (X2 i) (Y2 i), HS4.out.2.1.far4 HN.out.2.2.2.2.1 fun i => tcz (X2 i) (Y2 i), HS4.out.2.2.1.far4 HN.out.2.2.2.2.2 fun i => tcz (X2 i) (Y2 i), below4 HS4.out.2.2.2.1 l1 fun i => tcz (X2 i) (Y2 i), by have := HS4.out.2.2.2.2; simpa [World.setCell] using this⟩
  clear hK K c0 f0 c1 f1 c2 f2 c3 f3
  have HB1 := Lib.hid (HB1.out.put4 rfl fun i => tcz (X2 i) (Y2 i))
  have HB0 := Lib.hid (HB0.out.far4 hne fun i => tcz (X2 i) (Y2 i))
  try simp only [Act.put, List.setIfInBounds_toArray, List.set_cons_zero, List.set_cons_succ]
  have hw6 : ∃ w6, Go.Proofs.Ytnelcbbjnpaodaa.put4 w5 g1 (fun i => tcz (X2 i) (Y2 i)) = w6 := ⟨_, rfl⟩
  obtain ⟨w6, hw6⟩ := hw6
  unfold Go.Proofs.Ytnelcbbjnpaodaa.put4 tcz at hw6
  rw [hw6] at hHeld ⊢
  have HB0 : Hid (Blk w6 g0 54 (vArr 4 fun i => tcz (X i) (Y i))) := Lib.hid (hw6 ▸ HB0.out)
  have HB1 : Hid (Blk w6 g1 54 (vArr 4 fun i => tcz (X2 i) (Y2 i))) := Lib.hid (hw6 ▸ HB1.out)
  have HS6 : Hid (Blk w6 (w.heap.size + 1 + 1) 24 (vArr 4 fun _ => .int .i64 0) ∧ Below w.heap.size w w6) := Lib.hid ⟨hHeld.2.2.1, hHeld.2.2.2.1⟩
  have hne2 : w.heap.size + 1 + 1 ≠ g0 := HN.out.2.2.1
  clear hw6 HS4 hHeld HN hS4 hS QA QG Q0 QB HZ HIF HIG
  refine wpAnyH_done (by kernel_rfl) ?_ _
  go_wp2_with fail
  go_loopw [8, 22] (fun z i wr => ∃ (k : Nat) (X Y : Nat → Nat), k ≤ 4 ∧ i = .int .i64 k ∧ (∀ i, i < k → IsI (X i) (bth f g i).1 ∧ IsI (Y i) (bth f g i).2) ∧ (∀ i, k ≤ i → i < 4 → IsI (X i) (smm (-1) (fun i => (f i, 0)) i 4).1 ∧ IsI (Y i) (smm (-1) (fun i => (f i, 0)) i 4).2) ∧ Blk wr g0 54 (vArr 4 fun i => tcz (X i) (Y i)) ∧ Blk wr g1 54 (vArr 4 fun i => tcz (X2 i) (Y2 i)) ∧ Blk wr (w.heap.size + 1 + 1) 24 (vArr 4 fun _ => .int .i64 0) ∧ Below w.heap.size w wr) (fun _ i _ => 4 - (intOf i).toNat)
  case atStart => exact ⟨0, X, Y, by omega, rfl, fun i hi => absurd hi (by omega), fun i _ hi => HXY.out i hi, HB0.out, HB1.out, HS6.out.1, HS6.out.2⟩
  case round =>
    clear HB0 HB1 HS6 HXY
    obtain ⟨k, X, Y, hk, rfl, hx1, hx2, hq0, hq1, hr, hB⟩ := hrel
    have Q0 := Lib.hid hq0
    have Q1 := Lib.hid hq1
    have QR := Lib.hid hr
    have QB := Lib.hid hB
    have HX1 := Lib.hid hx1
    have HX2 := Lib.hid hx2
    clear hr hB hx1 hx2
    by_cases hlt : k < 4
    · have i1 : (k : Int) < 4 := by omega
      have i2 : (0 : Int) ≤ (k : Int) := by omega
      have m1 := smm_bd (s := -1) (.inr rfl) (x := fun i => (f i, 0)) (M := 262144) (fun i hi => ⟨HBF.out i hi, by simp⟩) (by omega : k ≤ 4) (n := 4) (by omega)
      have m2 := smm_bd (s := -1) (.inr rfl) (x := fun i => (g i, 0)) (M := 262144) (fun i hi => ⟨HBG.out i hi, by simp⟩) (by omega : k ≤ 4) (n := 4) (by omega)
      obtain ⟨b1, b2, b3, b4, b5, b6⟩ := cml_bd m1.1 m1.2 m2.1 m2.2
      obtain ⟨x1, x2⟩ := HX2.out k (Nat.le_refl _) hlt
      obtain ⟨y1, y2⟩ := HXY2.out k hlt
      obtain ⟨a, b, e1, ia, ib⟩ := isI_cmul x1 x2 y1 y2 (by omega) (by omega) (by omega) (by omega) (by simp only [cml] at b5; omega) (by simp only [cml] at b6; omega)
      have hmul : ∀ w, (binOp .mul 53 (.complex .f64 (X k) (Y k)) (.complex .f64 (X2 k) (Y2 k))).run Try.prog w = .ok (.complex .f64 a b) w := fun w => run_complex_mul w _ _ _ _ _ _ _ e1
      have hcu : wr.cell? ⟨g0, k, none⟩ = some (.complex .f64 (X k) (Y k)) := by rw [hq0.cell, vArr_at 4 _ _ hlt]; rfl
      have hcv : wr.cell? ⟨g1, k, none⟩ = some (.complex .f64 (X2 k) (Y2 k)) := by rw [hq1.cell, vArr_at 4 _ _ hlt]; rfl
      have hfu : wr.frozen? ⟨g0, k, none⟩ = false := hq0.frozen _
      have HAB : Hid (IsI a (bth f g k).1 ∧ IsI b (bth f g k).2) := Lib.hid ⟨ia, ib⟩
      clear hq0 hq1 m1 m2 b1 b2 b3 b4 b5 b6 x1 x2 y1 y2 e1 ia ib
      go_wp2_with fail
      go_region
      all_goals
        go_wp2_with fail
        go_roundw
        case rel =>
          refine ⟨k + 1, fun i => if i = k then a else X i, fun i => if i = k then b else Y i, by omega, by go_num, fun i hi => ?_, fun i h1 h2 => ?_, ?_, Q1.out.drew_.far (p := ⟨g0, k, none⟩) (Ne.symm hne) _, QR.out.drew_.far (p := ⟨g0, k, none⟩) hne2 _, QB.out.drew.setCell (p := ⟨g0, k, none⟩) l0 _⟩
          · by_cases h : i = k
            · simp only [h, if_true]; exact HAB.out
            · simp only [h, if_false]; exact HX1.out i (by omega)
          · simp only [if_neg (show ¬ i = k by omega)]; exact HX2.out i (by omega) h2
          · have := Q0.out.drew_.set_ k (tcz a b)
            rw [vArr_set] at this
            have e : (vArr 4 fun j => if j = k then tcz a b else tcz (X j) (Y j)) = vArr 4 fun i => tcz (if i = k then a else X i) (if i = k then b else Y i) := vArr_congr fun i _ => by
              by_cases h : i = k
              · simp only [h, if_true]
              · simp only [h, if_false]
            rw [e] at this
            exact this
        case measure => simp [intOf]; omega
    · have i1 : ¬ (k : Int) < 4 := by omega
      obtain rfl : k = 4 := by omega
      have hbb : ∀ i, i < 4 → (bth f g i).1.natAbs ≤ 35184372088832 ∧ (bth f g i).2.natAbs ≤ 35184372088832 := fun i hi => by
        have m1 := smm_bd (s := -1) (.inr rfl) (x := fun i => (f i, 0)) (M := 262144) (fun i hi => ⟨HBF.out i hi, by simp⟩) (by omega : i ≤ 4) (n := 4) (by omega)
        have m2 := smm_bd (s := -1) (.inr rfl) (x := fun i => (g i, 0)) (M := 262144) (fun i hi => ⟨HBG.out i hi, by simp⟩) (by omega : i ≤ 4) (n := 4) (by omega)
        obtain ⟨_, _, _, _, b5, b6⟩ := cml_bd m1.1 m1.2 m2.1 m2.2
        have e1 : (bth f g i).1.natAbs ≤ _ := b5
        have e2 : (bth f g i).2.natAbs ≤ _ := b6
        constructor <;> omega
      have HBB := Lib.hid hbb
      have c0 : wr.cell? ⟨g0, 0, none⟩ = some (.complex .f64 (X 0) (Y 0)) := by rw [hq0.cell, vArr_at 4 _ _ (by decide)]; rfl
      have c1 : wr.cell? ⟨g0, 1, none⟩ = some (.complex .f64 (X 1) (Y 1)) := by rw [hq0.cell, vArr_at 4 _ _ (by decide)]; rfl
      have c2 : wr.cell? ⟨g0, 2, none⟩ = some (.complex .f64 (X 2) (Y 2)) := by rw [hq0.cell, vArr_at 4 _ _ (by decide)]; rfl
      have c3 : wr.cell? ⟨g0, 3, none⟩ = some (.complex .f64 (X 3) (Y 3)) := by rw [hq0.cell, vArr_at 4 _ _ (by decide)]; rfl
      clear hq0 hq1 hbb
      have hl1 := QR.out.lt
      go_wp2_with fail
      refine (tundone_any X Y (bth f g) HX1.out HBB.out wr).mono ?_
      have hUV : vArr 4 (udV (bth f g)) = #[.int .i64 (V 0), .int .i64 (V 1), .int .i64 (V 2), .int .i64 (V 3)] := by
        have : vArr 4 (udV (bth f g)) = vArr 4 fun n => .int .i64 (V n) := vArr_congr fun n hn => by unfold udV; rw [cnv_of f g hn, ← HV.out]; unfold rndV; rw [if_pos HE.out]
        rw [this]; rfl
      rw [hUV]
      clear hUV
      rintro e w7 ⟨rfl, b7⟩
      have K0 := QR.out.below b7 hl1
      have QB := Lib.hid (QB.out.trans (b7.mono QB.out.size))
      have Q0 := Lib.hid K0
      have d0 : w7.cell? ⟨w.heap.size + 1 + 1, 0, none⟩ = some (.int .i64 0) := K0.cell 0
      have g0 := K0.frozen 0
      have d1 : w7.cell? ⟨w.heap.size + 1 + 1, 1, none⟩ = some (.int .i64 0) := K0.cell 1
      have g1 := K0.frozen 1
      have d2 : w7.cell? ⟨w.heap.size + 1 + 1, 2, none⟩ = some (.int .i64 0) := K0.cell 2
      have g2 := K0.frozen 2
      have d3 : w7.cell? ⟨w.heap.size + 1 + 1, 3, none⟩ = some (.int .i64 0) := K0.cell 3
      have g3 := K0.frozen 3
      clear K0 b7
      go_wp2_with fail
      refine bodyPost_ret (v := .tuple #[.agg (vArr 4 fun n => .int .i64 (V n)), .int .i64 0]) (results_cell_tmp (a := ⟨w.heap.size + 1 + 1, 0, none⟩) Try.results17 (by rfl) ((Q0.out.put4 rfl (fun n => .int .i64 (V n))).run_load Try.underlying24 rfl tinfo4) rfl) rfl ?_
      exact ⟨rfl, below4 QB.out (by omega) (fun n => .int .i64 (V n))⟩
end Go.Proofs.Ytnelcbbjnpaodaa
