/-
  Layer 17: around, undone.
-/
import Derived.Test.YtnelcbbjnpaodaaTrn3
namespace Go.Proofs.Ytnelcbbjnpaodaa
open Go.RowKit
set_option linter.unusedVariables false
set_option linter.unusedSimpArgs false
set_option maxRecDepth 100000
attribute [local go_sem] run_store_complex
/-- The first k sums are made, of the next one n numbers are in it, all others are 0. -/
def AS (s : Int) (p : Nat → Int × Int) (k n : Nat) (X Y : Nat → Nat) : Prop :=
  (∀ i, i < k → IsI (X i) (smm s p i 4).1 ∧ IsI (Y i) (smm s p i 4).2) ∧ (IsI (X k) (smm s p k n).1 ∧ IsI (Y k) (smm s p k n).2) ∧ ∀ i, k < i → X i = 0 ∧ Y i = 0
theorem AS.first (s : Int) (p : Nat → Int × Int) : AS s p 0 0 (fun _ => 0) fun _ => 0 := ⟨fun i hi => absurd hi (by omega), ⟨isI_zero, isI_zero⟩, fun _ _ => ⟨rfl, rfl⟩⟩
theorem AS.next {s : Int} {p : Nat → Int × Int} {k : Nat} {X Y : Nat → Nat} (h : AS s p k 4 X Y) : AS s p (k + 1) 0 X Y := by
  obtain ⟨h1, h2, h3⟩ := h
  refine ⟨fun i hi => ?_, ?_, fun i hi => h3 i (by omega)⟩
  · by_cases e : i = k
    · subst e; exact h2
    · exact h1 i (by omega)
  · obtain ⟨e1, e2⟩ := h3 (k + 1) (by omega)
    rw [e1, e2]
    exact ⟨isI_zero, isI_zero⟩
theorem AS.on {s : Int} {p : Nat → Int × Int} {k n a b : Nat} {X Y : Nat → Nat} (h : AS s p k n X Y) (ha : IsI a (smm s p k (n + 1)).1) (hb : IsI b (smm s p k (n + 1)).2) : AS s p k (n + 1) (fun i => if i = k then a else X i) fun i => if i = k then b else Y i := by
  obtain ⟨h1, h2, h3⟩ := h
  refine ⟨fun i hi => ?_, ?_, fun i hi => ?_⟩
  · simp only [if_neg (show ¬ i = k by omega)]; exact h1 i hi
  · simp only [if_true]; exact ⟨ha, hb⟩
  · simp only [if_neg (show ¬ i = k by omega)]; exact h3 i hi
theorem tsmalls {s : Int} (hs : s = 1 ∨ s = -1) {p : Nat → Int × Int} (hM : ∀ i, i < 4 → (p i).1.natAbs ≤ 35184372088832 ∧ (p i).2.natAbs ≤ 35184372088832) {k n : Nat} (hk : k < 4) (hn : n < 4) {x y fr fi sr si X Y : Nat}
    (hx : IsI x (p n).1) (hy : IsI y (p n).2) (hfr : IsI fr (fct s k n).1) (hfi : IsI fi (fct s k n).2) (hsr : IsI sr (stp s k).1) (hsi : IsI si (stp s k).2) (hX : IsI X (smm s p k n).1) (hY : IsI Y (smm s p k n).2) :
    (∃ a b c d, cMulBits x y fr fi = some (a, b) ∧ cSumBits .add .f64 X Y a b = some (c, d) ∧ IsI c (smm s p k (n + 1)).1 ∧ IsI d (smm s p k (n + 1)).2) ∧ ∃ a b, cMulBits fr fi sr si = some (a, b) ∧ IsI a (fct s k (n + 1)).1 ∧ IsI b (fct s k (n + 1)).2 := by
  obtain ⟨m1, m2⟩ := hM n hn
  obtain ⟨u1, u2, u3, u4, u5, u6⟩ := unit_mul (x := p n) (fct_bd hs (by omega : k ≤ 4) (by omega : n ≤ 4)) m1 m2
  have hb := smm_bd hs hM (by omega : k ≤ 4) (by omega : n ≤ 4)
  have hb' := smm_bd hs hM (by omega : k ≤ 4) (by omega : n + 1 ≤ 4)
  have hst := stp_bd hs (by omega : k ≤ 4)
  have hfc := fct_bd hs (by omega : k ≤ 4) (by omega : n ≤ 4)
  obtain ⟨v1, v2, v3, v4, v5, v6⟩ := unit_mul (x := fct s k n) (M := 1) hst (by omega) (by omega)
  constructor
  · obtain ⟨a, b, e1, ia, ib⟩ := isI_cmul hx hy hfr hfi (by omega) (by omega) (by omega) (by omega) (by omega) (by omega)
    have e3 : (smm s p k (n + 1)).1 = (smm s p k n).1 + ((p n).1 * (fct s k n).1 - (p n).2 * (fct s k n).2) := rfl
    have e4 : (smm s p k (n + 1)).2 = (smm s p k n).2 + ((p n).1 * (fct s k n).2 + (p n).2 * (fct s k n).1) := rfl
    have q : (n + 1) * 35184372088832 ≤ 4 * 35184372088832 := Nat.mul_le_mul_right _ (by omega)
    rw [e3, e4] at hb'
    obtain ⟨c, d, e2, ic, id⟩ := isI_csum hX hY ia ib (by omega) (by omega)
    exact ⟨a, b, c, d, e1, e2, e3 ▸ ic, e4 ▸ id⟩
  · obtain ⟨a, b, e1, ia, ib⟩ := isI_cmul hfr hfi hsr hsi (by omega) (by omega) (by omega) (by omega) (by omega) (by omega)
    exact ⟨a, b, e1, ia, ib⟩
theorem tsteps {s : Int} (hs : s = 1 ∨ s = -1) {k : Nat} (hk : k < 4) {sr si tr ti : Nat} (hsr : IsI sr (stp s k).1) (hsi : IsI si (stp s k).2) (htr : IsI tr 0) (hti : IsI ti s) :
    ∃ a b, cMulBits sr si tr ti = some (a, b) ∧ IsI a (stp s (k + 1)).1 ∧ IsI b (stp s (k + 1)).2 := by
  have hst := stp_bd hs (by omega : k ≤ 4)
  obtain ⟨v1, v2, v3, v4, v5, v6⟩ := unit_mul (x := stp s k) (M := 1) (a := 0) (b := s) (by omega) (by omega) (by omega)
  obtain ⟨a, b, e1, ia, ib⟩ := isI_cmul hsr hsi htr hti (by omega) (by omega) (by omega) (by omega) (by omega) (by omega)
  exact ⟨a, b, e1, ia, ib⟩
set_option maxHeartbeats 8000000 in
theorem taround_any (x y : Nat → Nat) (p : Nat → Int × Int) (hI : ∀ i, i < 4 → IsI (x i) (p i).1 ∧ IsI (y i) (p i).2) (hM : ∀ i, i < 4 → (p i).1.natAbs ≤ 35184372088832 ∧ (p i).2.natAbs ≤ 35184372088832) (s : Int) (hs : s = 1 ∨ s = -1) (tr ti : Nat) (htr : IsI tr 0) (hti : IsI ti s) (w : World) :
    Calls Try.prog 28 #[.agg (vArr 4 fun i => tcz (x i) (y i)), .complex .f64 tr ti] w fun e w' => (∃ X Y : Nat → Nat, e = .returned (.agg (vArr 4 fun i => tcz (X i) (Y i))) ∧ ∀ i, i < 4 → IsI (X i) (smm s p i 4).1 ∧ IsI (Y i) (smm s p i 4).2) ∧ Below w.heap.size w w' := by
  show Calls Try.prog 28 #[.agg #[.complex .f64 (x 0) (y 0), .complex .f64 (x 1) (y 1), .complex .f64 (x 2) (y 2), .complex .f64 (x 3) (y 3)], .complex .f64 tr ti] w _
  have HI := Lib.hid hI
  have HM := Lib.hid hM
  have HS := Lib.hid hs
  have HT := Lib.hid (And.intro htr hti)
  clear hI hM hs htr hti
  have hxx : ∀ k : Nat, k < 4 → ∀ w, (Instr.index 54 (.agg #[.complex .f64 (x 0) (y 0), .complex .f64 (x 1) (y 1), .complex .f64 (x 2) (y 2), .complex .f64 (x 3) (y 3)]) (.int .i64 (k : Int))).run Try.prog w = .ok (tcz (x k) (y k)) w := fun k hk w => ix_cpx (fun i => tcz (x i) (y i)) k hk w
  have HX := Lib.hid hxx
  clear hxx
  have hq0 : Blk (((w.alloc (.cells #[.complex .f64 (x 0) (y 0), .complex .f64 (x 1) (y 1), .complex .f64 (x 2) (y 2), .complex .f64 (x 3) (y 3)] 54)).alloc (.cells #[.complex .f64 0 0, .complex .f64 0 0, .complex .f64 0 0, .complex .f64 0 0] 54)).alloc (.cells #[.complex .f64 0 0, .complex .f64 0 0, .complex .f64 0 0, .complex .f64 0 0] 54)) (w.heap.size + 1) 54 (vArr 4 fun _ => tcz 0 0) := Blk.alloc (Blk.new_ (by simp)) _
  have hq1 : Blk (((w.alloc (.cells #[.complex .f64 (x 0) (y 0), .complex .f64 (x 1) (y 1), .complex .f64 (x 2) (y 2), .complex .f64 (x 3) (y 3)] 54)).alloc (.cells #[.complex .f64 0 0, .complex .f64 0 0, .complex .f64 0 0, .complex .f64 0 0] 54)).alloc (.cells #[.complex .f64 0 0, .complex .f64 0 0, .complex .f64 0 0, .complex .f64 0 0] 54)) (w.heap.size + 1 + 1) 54 (vArr 4 fun i => tcz ((fun _ => 0 : Nat → Nat) i) ((fun _ => 0 : Nat → Nat) i)) := Blk.new_ (by simp)
  have hqs : Blk (((w.alloc (.cells #[.complex .f64 (x 0) (y 0), .complex .f64 (x 1) (y 1), .complex .f64 (x 2) (y 2), .complex .f64 (x 3) (y 3)] 54)).alloc (.cells #[.complex .f64 0 0, .complex .f64 0 0, .complex .f64 0 0, .complex .f64 0 0] 54)).alloc (.cells #[.complex .f64 0 0, .complex .f64 0 0, .complex .f64 0 0, .complex .f64 0 0] 54)) w.heap.size 54 #[.complex .f64 (x 0) (y 0), .complex .f64 (x 1) (y 1), .complex .f64 (x 2) (y 2), .complex .f64 (x 3) (y 3)] := Blk.alloc (Blk.alloc (Blk.new_ rfl) _) _
  have hB : Below w.heap.size w (((w.alloc (.cells #[.complex .f64 (x 0) (y 0), .complex .f64 (x 1) (y 1), .complex .f64 (x 2) (y 2), .complex .f64 (x 3) (y 3)] 54)).alloc (.cells #[.complex .f64 0 0, .complex .f64 0 0, .complex .f64 0 0, .complex .f64 0 0] 54)).alloc (.cells #[.complex .f64 0 0, .complex .f64 0 0, .complex .f64 0 0, .complex .f64 0 0] 54)) := (((Below.refl _ w).alloc (Nat.le_refl _) _).alloc (by simp) _).alloc (by simp; omega) _
  have H0 := Lib.hid hq0
  have H1 := Lib.hid hq1
  have H2 := Lib.hid hqs
  have HB := Lib.hid hB
  clear hq0 hq1 hqs hB
  go_enter Try.func28, Try.ntmps28
  go_wp2_with fail
  generalize World.alloc _ _ = w3 at *
  go_loopw [6, 11] (fun st i wr => ∃ (k sr si : Nat) (X Y : Nat → Nat), k ≤ 4 ∧ i = .int .i64 k ∧ st = .complex .f64 sr si ∧ IsI sr (stp s k).1 ∧ IsI si (stp s k).2 ∧ AS s p k 0 X Y ∧ Blk wr w.heap.size 54 #[.complex .f64 (x 0) (y 0), .complex .f64 (x 1) (y 1), .complex .f64 (x 2) (y 2), .complex .f64 (x 3) (y 3)] ∧ Blk wr (w.heap.size + 1) 54 (vArr 4 fun _ => tcz 0 0) ∧ Blk wr (w.heap.size + 1 + 1) 54 (vArr 4 fun i => tcz (X i) (Y i)) ∧ Below w.heap.size w wr) (fun _ i _ => 4 - (intOf i).toNat)
  case atStart => exact ⟨0, _, _, _, _, by omega, rfl, rfl, isI_one, isI_zero, AS.first s p, H2.out, H0.out, H1.out, HB.out⟩
  case round =>
    clear H0 H1 H2 HB
    obtain ⟨k, sr, si, X, Y, hk, rfl, rfl, hsr, hsi, hAS, hqs, hq0, hq1, hB⟩ := hrel
    have QS := Lib.hid hqs
    have Q0 := Lib.hid hq0
    have Q1 := Lib.hid hq1
    have QB := Lib.hid hB
    have QA := Lib.hid hAS
    have QT := Lib.hid (And.intro hsr hsi)
    clear hq0 hB hAS hsr hsi
    by_cases hlt : k < 4
    · have i1 : (k : Int) < 4 := by omega
      have c0 : wr.cell? ⟨w.heap.size, 0, none⟩ = some (.complex .f64 (x 0) (y 0)) := hqs.cell 0
      have c1 : wr.cell? ⟨w.heap.size, 1, none⟩ = some (.complex .f64 (x 1) (y 1)) := hqs.cell 1
      have c2 : wr.cell? ⟨w.heap.size, 2, none⟩ = some (.complex .f64 (x 2) (y 2)) := hqs.cell 2
      have c3 : wr.cell? ⟨w.heap.size, 3, none⟩ = some (.complex .f64 (x 3) (y 3)) := hqs.cell 3
      clear hqs hq1
      go_wp2_with fail
      clear c0 c1 c2 c3
      go_loopw [8, 15] (fun fc i wr => ∃ (n fr fi : Nat) (X Y : Nat → Nat), n ≤ 4 ∧ i = .int .i64 n ∧ fc = .complex .f64 fr fi ∧ IsI fr (fct s k n).1 ∧ IsI fi (fct s k n).2 ∧ AS s p k n X Y ∧ Blk wr w.heap.size 54 #[.complex .f64 (x 0) (y 0), .complex .f64 (x 1) (y 1), .complex .f64 (x 2) (y 2), .complex .f64 (x 3) (y 3)] ∧ Blk wr (w.heap.size + 1) 54 (vArr 4 fun _ => tcz 0 0) ∧ Blk wr (w.heap.size + 1 + 1) 54 (vArr 4 fun i => tcz (X i) (Y i)) ∧ Below w.heap.size w wr) (fun _ i _ => 4 - (intOf i).toNat)
      case atStart => exact ⟨0, _, _, _, _, by omega, rfl, rfl, isI_one, isI_zero, QA.out, QS.out, Q0.out, Q1.out, QB.out⟩
      case round =>
        clear QS Q0 Q1 QB QA X Y
        obtain ⟨n, fr, fi, X, Y, hn, rfl, rfl, hfr, hfi, hAS, hqs, hq0, hq1, hB⟩ := hrel
        have QS := Lib.hid hqs
        have Q0 := Lib.hid hq0
        have Q1 := Lib.hid hq1
        have QB := Lib.hid hB
        have QA := Lib.hid hAS
        clear hqs hq0 hB
        by_cases hltn : n < 4
        · have j1 : (n : Int) < 4 := by omega
          obtain ⟨⟨a, b, c, d, e1, e2, ic, id⟩, a2, b2, e3, ia, ib⟩ := tsmalls HS.out HM.out hlt hltn (HI.out n hltn).1 (HI.out n hltn).2 hfr hfi QT.out.1 QT.out.2 hAS.2.1.1 hAS.2.1.2
          have hix := HX.out n hltn
          unfold tcz at hix
          have hmul : ∀ w, (binOp .mul 53 (.complex .f64 (x n) (y n)) (.complex .f64 fr fi)).run Try.prog w = .ok (.complex .f64 a b) w := fun w => run_complex_mul w _ _ _ _ _ _ _ e1
          have hadd : ∀ w, (binOp .add 53 (.complex .f64 (X k) (Y k)) (.complex .f64 a b)).run Try.prog w = .ok (.complex .f64 c d) w := fun w => run_complex_sum w .add (.inl rfl) _ _ _ _ _ _ _ _ e2
          have hmul2 : ∀ w, (binOp .mul 53 (.complex .f64 fr fi) (.complex .f64 sr si)).run Try.prog w = .ok (.complex .f64 a2 b2) w := fun w => run_complex_mul w _ _ _ _ _ _ _ e3
          have hcu : wr.cell? ⟨w.heap.size + 1 + 1, k, none⟩ = some (.complex .f64 (X k) (Y k)) := by rw [hq1.cell, vArr_at 4 _ _ hlt]; rfl
          have hfu : wr.frozen? ⟨w.heap.size + 1 + 1, k, none⟩ = false := hq1.frozen _
          have R1 := Lib.hid (And.intro ic id)
          have R2 := Lib.hid (And.intro ia ib)
          clear hq1 hAS hfr hfi e1 e2 e3 ic id ia ib
          generalize (Value.agg #[.complex .f64 (x 0) (y 0), .complex .f64 (x 1) (y 1), .complex .f64 (x 2) (y 2), .complex .f64 (x 3) (y 3)]) = AV at *
          go_wp2_with fail
          go_roundw
          case rel =>
            refine ⟨n + 1, a2, b2, _, _, by omega, by go_num, rfl, R2.out.1, R2.out.2, QA.out.on R1.out.1 R1.out.2, QS.out.far (p := ⟨w.heap.size + 1 + 1, k, none⟩) (by simp; omega) _, Q0.out.far (p := ⟨w.heap.size + 1 + 1, k, none⟩) (by simp) _, ?_, QB.out.setCell (p := ⟨w.heap.size + 1 + 1, k, none⟩) (by simp; omega) _⟩
            have := Q1.out.set_ k (tcz c d)
            rw [vArr_set] at this
            have e : (vArr 4 fun j => if j = k then tcz c d else tcz (X j) (Y j)) = vArr 4 fun i => tcz (if i = k then c else X i) (if i = k then d else Y i) := vArr_congr fun i _ => by
              by_cases h : i = k
              · simp only [h, if_true]
              · simp only [h, if_false]
            rw [e] at this
            exact this
          case measure => simp [intOf]; omega
        · have j1 : ¬ (n : Int) < 4 := by omega
          obtain rfl : n = 4 := by omega
          obtain ⟨a, b, e1, ia, ib⟩ := tsteps HS.out hlt QT.out.1 QT.out.2 HT.out.1 HT.out.2
          have hmul : ∀ w, (binOp .mul 53 (.complex .f64 sr si) (.complex .f64 tr ti)).run Try.prog w = .ok (.complex .f64 a b) w := fun w => run_complex_mul w _ _ _ _ _ _ _ e1
          have R2 := Lib.hid (And.intro ia ib)
          have QN := Lib.hid hAS.next
          clear hq1 hAS hfr hfi e1 ia ib
          go_wp2_with fail
          go_roundw
          case rel => exact ⟨k + 1, a, b, X, Y, by omega, by go_num, rfl, R2.out.1, R2.out.2, QN.out, QS.out, Q0.out, Q1.out, QB.out⟩
          case measure => simp [intOf]; omega
    · have i1 : ¬ (k : Int) < 4 := by omega
      obtain rfl : k = 4 := by omega
      have c0 : wr.cell? ⟨w.heap.size + 1 + 1, 0, none⟩ = some (.complex .f64 (X 0) (Y 0)) := by rw [hq1.cell, vArr_at 4 _ _ (by decide)]; rfl
      have c1 : wr.cell? ⟨w.heap.size + 1 + 1, 1, none⟩ = some (.complex .f64 (X 1) (Y 1)) := by rw [hq1.cell, vArr_at 4 _ _ (by decide)]; rfl
      have c2 : wr.cell? ⟨w.heap.size + 1 + 1, 2, none⟩ = some (.complex .f64 (X 2) (Y 2)) := by rw [hq1.cell, vArr_at 4 _ _ (by decide)]; rfl
      have c3 : wr.cell? ⟨w.heap.size + 1 + 1, 3, none⟩ = some (.complex .f64 (X 3) (Y 3)) := by rw [hq1.cell, vArr_at 4 _ _ (by decide)]; rfl
      have d0 : wr.cell? ⟨w.heap.size + 1, 0, none⟩ = some (.complex .f64 0 0) := Q0.out.cell 0
      have d1 : wr.cell? ⟨w.heap.size + 1, 1, none⟩ = some (.complex .f64 0 0) := Q0.out.cell 1
      have d2 : wr.cell? ⟨w.heap.size + 1, 2, none⟩ = some (.complex .f64 0 0) := Q0.out.cell 2
      have d3 : wr.cell? ⟨w.heap.size + 1, 3, none⟩ = some (.complex .f64 0 0) := Q0.out.cell 3
      have g0 := Q0.out.frozen 0
      have g1 := Q0.out.frozen 1
      have g2 := Q0.out.frozen 2
      have g3 := Q0.out.frozen 3
      clear hq1 hqs
      go_wp2_with fail
      refine bodyPost_ret (v := .agg (vArr 4 fun i => tcz (X i) (Y i))) (results_cell (a := ⟨w.heap.size + 1, 0, none⟩) Try.results28 (by rfl) ((Q0.out.put4 rfl fun i => tcz (X i) (Y i)).run_load Try.underlying54 rfl tinfo4c)) rfl ?_
      exact ⟨⟨X, Y, rfl, QA.out.1⟩, below4 QB.out (by omega) fun i => tcz (X i) (Y i)⟩
/-- What is turned back of four sums. -/
def udV (p : Nat → Int × Int) (n : Nat) : Value := .int .i64 (Int.tdiv (smm 1 p n 4).1 4)
set_option maxHeartbeats 8000000 in
theorem tundone_any (x y : Nat → Nat) (p : Nat → Int × Int) (hI : ∀ i, i < 4 → IsI (x i) (p i).1 ∧ IsI (y i) (p i).2) (hM : ∀ i, i < 4 → (p i).1.natAbs ≤ 35184372088832 ∧ (p i).2.natAbs ≤ 35184372088832) (w : World) :
    Calls Try.prog 31 #[.agg (vArr 4 fun i => tcz (x i) (y i))] w fun e w' => e = .returned (.agg (vArr 4 (udV p))) ∧ Below w.heap.size w w' := by
  show Calls Try.prog 31 #[.agg #[.complex .f64 (x 0) (y 0), .complex .f64 (x 1) (y 1), .complex .f64 (x 2) (y 2), .complex .f64 (x 3) (y 3)]] w _
  obtain ⟨R, hR⟩ : ∃ R, vArr 4 (udV p) = R := ⟨_, rfl⟩
  rw [hR]
  have HR := Lib.hid hR
  have HI := Lib.hid hI
  have HM := Lib.hid hM
  clear hR hI hM
  have hq0 : Blk (((w.alloc (.cells #[.complex .f64 (x 0) (y 0), .complex .f64 (x 1) (y 1), .complex .f64 (x 2) (y 2), .complex .f64 (x 3) (y 3)] 54)).alloc (.cells #[.int .i64 0, .int .i64 0, .int .i64 0, .int .i64 0] 24)).alloc (.cells #[.int .i64 0, .int .i64 0, .int .i64 0, .int .i64 0] 24)) (w.heap.size + 1) 24 (vArr 4 fun _ => .int .i64 0) := Blk.alloc (Blk.new_ (by simp)) _
  have hq1 : Blk (((w.alloc (.cells #[.complex .f64 (x 0) (y 0), .complex .f64 (x 1) (y 1), .complex .f64 (x 2) (y 2), .complex .f64 (x 3) (y 3)] 54)).alloc (.cells #[.int .i64 0, .int .i64 0, .int .i64 0, .int .i64 0] 24)).alloc (.cells #[.int .i64 0, .int .i64 0, .int .i64 0, .int .i64 0] 24)) (w.heap.size + 1 + 1) 24 (vArr 4 (upTo_ (udV p) (fun _ => .int .i64 0) 0)) := Blk.new_ (by simp)
  have hB : Below w.heap.size w (((w.alloc (.cells #[.complex .f64 (x 0) (y 0), .complex .f64 (x 1) (y 1), .complex .f64 (x 2) (y 2), .complex .f64 (x 3) (y 3)] 54)).alloc (.cells #[.int .i64 0, .int .i64 0, .int .i64 0, .int .i64 0] 24)).alloc (.cells #[.int .i64 0, .int .i64 0, .int .i64 0, .int .i64 0] 24)) := (((Below.refl _ w).alloc (Nat.le_refl _) _).alloc (by simp) _).alloc (by simp; omega) _
  have hsz : (((w.alloc (.cells #[.complex .f64 (x 0) (y 0), .complex .f64 (x 1) (y 1), .complex .f64 (x 2) (y 2), .complex .f64 (x 3) (y 3)] 54)).alloc (.cells #[.int .i64 0, .int .i64 0, .int .i64 0, .int .i64 0] 24)).alloc (.cells #[.int .i64 0, .int .i64 0, .int .i64 0, .int .i64 0] 24)).heap.size = w.heap.size + 1 + 1 + 1 := by simp
  have H0 := Lib.hid hq0
  have H1 := Lib.hid hq1
  have HB := Lib.hid hB
  have HSz := Lib.hid hsz
  clear hq0 hq1 hB hsz
  go_enter Try.func31, Try.ntmps31
  go_wp2_with fail
  generalize World.alloc _ _ = w3 at *
  refine (taround_any x y p HI.out HM.out 1 (.inl rfl) 0 4607182418800017408 isI_zero isI_one w3).mono ?_
  rintro e w4 ⟨⟨X, Y, rfl, hXY⟩, b4⟩
  have HXY := Lib.hid hXY
  have Q0 := Lib.hid (H0.out.below b4 (by rw [HSz.out]; omega))
  have Q1 := Lib.hid (H1.out.below b4 (by rw [HSz.out]; omega))
  have QB := Lib.hid (HB.out.trans (b4.mono (by rw [HSz.out]; omega)))
  clear hXY b4 H0 H1 HB HSz
  have hxx : ∀ k : Nat, k < 4 → ∀ w, (Instr.index 54 (.agg (vArr 4 fun i => tcz (X i) (Y i))) (.int .i64 (k : Int))).run Try.prog w = .ok (tcz (X k) (Y k)) w := fun k hk w => ix_cpx (fun i => tcz (X i) (Y i)) k hk w
  have HX := Lib.hid hxx
  clear hxx
  generalize (Value.agg (vArr 4 fun i => tcz (X i) (Y i))) = AV at *
  go_wp2_with fail
  go_loopw [4, 5, 8] (fun a b i wr => ∃ k : Nat, k ≤ 4 ∧ i = .int .i64 k ∧ Blk wr (w.heap.size + 1) 24 (vArr 4 fun _ => .int .i64 0) ∧ Blk wr (w.heap.size + 1 + 1) 24 (vArr 4 (upTo_ (udV p) (fun _ => .int .i64 0) k)) ∧ Below w.heap.size w wr) (fun _ _ i _ => 4 - (intOf i).toNat)
  case atStart => exact ⟨0, by omega, rfl, Q0.out, Q1.out, QB.out⟩
  case round =>
    clear Q0 Q1 QB
    obtain ⟨k, hk, rfl, hq0, hq1, hB⟩ := hrel
    have Q0 := Lib.hid hq0
    have Q1 := Lib.hid hq1
    have QB := Lib.hid hB
    clear hq0 hB
    by_cases hlt : k < 4
    · have i1 : (k : Int) < 4 := by omega
      have hix := HX.out k hlt
      obtain ⟨r, hr, hri⟩ := isI_quo4 (HXY.out k hlt).1
      obtain ⟨v, hv⟩ : ∃ v, Int.tdiv (smm 1 p k 4).1 4 = v := ⟨_, rfl⟩
      rw [hv] at hri
      have hquo : ∀ w, (binOp .quo 58 (.float .f64 (X k)) (.float .f64 4616189618054758400)).run Try.prog w = .ok (.float .f64 r) w := fun w => run_float_arith w .quo _ _ _ _ _ hr
      have hcf : ∀ w, (convert 58 3 (.float .f64 r)).run Try.prog w = .ok (.int .i64 v) w := fun w => run_convert_float_int w 58 3 .f64 .i64 r v (by rw [Try.underlying58]; rfl) Try.underlying3 hri
      unfold tcz at hix
      have hcu : wr.cell? ⟨w.heap.size + 1 + 1, k, none⟩ = some (.int .i64 0) := by rw [hq1.cell, vArr_at 4 _ _ hlt]; unfold upTo_; rw [if_neg (by omega)]
      have hfu : wr.frozen? ⟨w.heap.size + 1 + 1, k, none⟩ = false := hq1.frozen _
      have HV := Lib.hid hv
      clear hq1 hr hri hv
      go_wp2_with fail
      go_roundw
      case rel =>
        refine ⟨k + 1, by omega, by go_num, Q0.out.far (p := ⟨w.heap.size + 1 + 1, k, none⟩) (by simp) _, ?_, QB.out.setCell (p := ⟨w.heap.size + 1 + 1, k, none⟩) (by simp; omega) _⟩
        rw [← upTo_put]
        have := Q1.out.set_ k (udV p k)
        unfold udV at this ⊢
        rw [HV.out] at this ⊢
        exact this
      case measure => simp [intOf]; omega
    · have i1 : ¬ (k : Int) < 4 := by omega
      obtain rfl : k = 4 := by omega
      rw [upTo_all] at hq1
      obtain ⟨v0, hv0⟩ : ∃ v, Int.tdiv (smm 1 p 0 4).1 4 = v := ⟨_, rfl⟩
      have c0 : wr.cell? ⟨w.heap.size + 1 + 1, 0, none⟩ = some (.int .i64 v0) := by rw [hq1.cell, vArr_at 4 _ _ (by decide)]; unfold udV; rw [hv0]
      have HV0 := Lib.hid hv0
      have d0 : wr.cell? ⟨w.heap.size + 1, 0, none⟩ = some (.int .i64 0) := Q0.out.cell 0
      have g0 := Q0.out.frozen 0
      obtain ⟨v1, hv1⟩ : ∃ v, Int.tdiv (smm 1 p 1 4).1 4 = v := ⟨_, rfl⟩
      have c1 : wr.cell? ⟨w.heap.size + 1 + 1, 1, none⟩ = some (.int .i64 v1) := by rw [hq1.cell, vArr_at 4 _ _ (by decide)]; unfold udV; rw [hv1]
      have HV1 := Lib.hid hv1
      have d1 : wr.cell? ⟨w.heap.size + 1, 1, none⟩ = some (.int .i64 0) := Q0.out.cell 1
      have g1 := Q0.out.frozen 1
      obtain ⟨v2, hv2⟩ : ∃ v, Int.tdiv (smm 1 p 2 4).1 4 = v := ⟨_, rfl⟩
      have c2 : wr.cell? ⟨w.heap.size + 1 + 1, 2, none⟩ = some (.int .i64 v2) := by rw [hq1.cell, vArr_at 4 _ _ (by decide)]; unfold udV; rw [hv2]
      have HV2 := Lib.hid hv2
      have d2 : wr.cell? ⟨w.heap.size + 1, 2, none⟩ = some (.int .i64 0) := Q0.out.cell 2
      have g2 := Q0.out.frozen 2
      obtain ⟨v3, hv3⟩ : ∃ v, Int.tdiv (smm 1 p 3 4).1 4 = v := ⟨_, rfl⟩
      have c3 : wr.cell? ⟨w.heap.size + 1 + 1, 3, none⟩ = some (.int .i64 v3) := by rw [hq1.cell, vArr_at 4 _ _ (by decide)]; unfold udV; rw [hv3]
      have HV3 := Lib.hid hv3
      have d3 : wr.cell? ⟨w.heap.size + 1, 3, none⟩ = some (.int .i64 0) := Q0.out.cell 3
      have g3 := Q0.out.frozen 3
      clear hq1 hv0 hv1 hv2 hv3
      go_wp2_with fail
      rw [← HV0.out, ← HV1.out, ← HV2.out, ← HV3.out]
      refine bodyPost_ret (v := .agg (vArr 4 (udV p))) (results_cell (a := ⟨w.heap.size + 1, 0, none⟩) Try.results31 (by rfl) ((Q0.out.put4 rfl (udV p)).run_load Try.underlying24 rfl tinfo4)) rfl ?_
      exact ⟨by rw [HR.out], below4 QB.out (by omega) (udV p)⟩
end Go.Proofs.Ytnelcbbjnpaodaa
