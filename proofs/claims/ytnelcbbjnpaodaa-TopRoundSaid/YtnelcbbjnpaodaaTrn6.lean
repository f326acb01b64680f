/-
  Layer 17: Strength, Wave.
-/
import Derived.Test.YtnelcbbjnpaodaaTrn5
import Derived.Test.YtnelcbbjnpaodaaG25
import Derived.Deep.WholeRow
import Derived.Laws.Rows
import Derived.Deep.Cut
import Derived.Deep.CutRange
namespace Go.Proofs.Ytnelcbbjnpaodaa
open Go.RowKit
set_option linter.unusedVariables false
set_option linter.unusedSimpArgs false
set_option maxRecDepth 100000
attribute [local go_sem] run_store_complex
/-- How strong what goes round by k quarters is. -/
def sqB (f : Nat → Int) (k : Nat) : Int := bns f (k * 2) * bns f (k * 2) + bns f (k * 2 + 1) * bns f (k * 2 + 1)
def sqV (f : Nat → Int) (k : Nat) : Value := .int .i64 (sqB f k)
theorem tinfo2 : (Try.prog.info? 28).map (·.size) = some 2 := by kernel_rfl
theorem ix_pair (f : Nat → Value) (k : Nat) (hk : k < 4) (w : World) : (Instr.index 29 (.agg #[f 0, f 1, f 2, f 3, f 4, f 5, f 6, f 7]) (.int .i64 (k : Int))).run Try.prog w = .ok (.agg #[f (k * 2), f (k * 2 + 1)]) w :=
  run_index_aggM (n := 4) (m := 2) Try.underlying29 Try.underlying28 tinfo2 f hk w
theorem tabs_le (x : Int) : -(x.natAbs : Int) ≤ x ∧ x ≤ (x.natAbs : Int) := by omega
theorem tabs_of {x : Int} {M : Nat} (h1 : -(M : Int) ≤ x) (h2 : x ≤ M) : x.natAbs ≤ M := by omega
/-- What there is of a row of at most M in all is at most M. -/
theorem bns_of_sum {f : Nat → Int} {M : Nat} (h : (f 0).natAbs + (f 1).natAbs + (f 2).natAbs + (f 3).natAbs ≤ M) (j : Nat) : (bns f j).natAbs ≤ M := by
  obtain ⟨a0, b0⟩ := tabs_le (f 0)
  obtain ⟨a1, b1⟩ := tabs_le (f 1)
  obtain ⟨a2, b2⟩ := tabs_le (f 2)
  obtain ⟨a3, b3⟩ := tabs_le (f 3)
  have g0 : ∀ r, f 0 = r → f 0 = r := fun _ h => h
  generalize (f 0).natAbs = n0 at *
  generalize (f 1).natAbs = n1 at *
  generalize (f 2).natAbs = n2 at *
  generalize (f 3).natAbs = n3 at *
  have key : ∀ j, j < 8 → (bns f j).natAbs ≤ M := fun j hj => by
    have : j = 0 ∨ j = 1 ∨ j = 2 ∨ j = 3 ∨ j = 4 ∨ j = 5 ∨ j = 6 ∨ j = 7 := by omega
    rcases this with rfl | rfl | rfl | rfl | rfl | rfl | rfl | rfl <;> (apply tabs_of <;> simp only [bns] <;> omega)
  by_cases hj : j < 8
  · exact key j hj
  · have e : bns f j = bns f 7 := by
      obtain ⟨i, rfl⟩ : ∃ i, j = i + 7 := ⟨j - 7, by omega⟩
      rfl
    rw [e]; exact key 7 (by decide)
theorem fsm_sum {z : Nat → Int} {n : Nat} (h : ∀ i, i < n → -262144 ≤ z i ∧ z i ≤ 262144) : (fsm z n 0).natAbs + (fsm z n 1).natAbs + (fsm z n 2).natAbs + (fsm z n 3).natAbs ≤ 262144 * n := by
  induction n with
  | zero => simp [fsm]
  | succ n ih =>
    have a := ih fun i hi => h i (by omega)
    have c := h n (by omega)
    simp only [fsm]
    have : n % 4 = 0 ∨ n % 4 = 1 ∨ n % 4 = 2 ∨ n % 4 = 3 := by omega
    obtain ⟨u, hu⟩ : ∃ u, z n = u := ⟨_, rfl⟩
    rw [hu] at c
    have tcz : u.natAbs ≤ 262144 := by omega
    have tri : ∀ x : Int, (x + u).natAbs ≤ x.natAbs + u.natAbs := fun x => Int.natAbs_add_le x u
    have t0 := tri (fsm z n 0)
    have t1 := tri (fsm z n 1)
    have t2 := tri (fsm z n 2)
    have t3 := tri (fsm z n 3)
    clear tri c h ih
    rcases this with e | e | e | e <;> simp only [e, hu, if_true, if_neg (show ¬ (0 : Nat) = 1 by decide), if_neg (show ¬ (0 : Nat) = 2 by decide), if_neg (show ¬ (0 : Nat) = 3 by decide), if_neg (show ¬ (1 : Nat) = 0 by decide), if_neg (show ¬ (1 : Nat) = 2 by decide), if_neg (show ¬ (1 : Nat) = 3 by decide), if_neg (show ¬ (2 : Nat) = 0 by decide), if_neg (show ¬ (2 : Nat) = 1 by decide), if_neg (show ¬ (2 : Nat) = 3 by decide), if_neg (show ¬ (3 : Nat) = 0 by decide), if_neg (show ¬ (3 : Nat) = 1 by decide), if_neg (show ¬ (3 : Nat) = 2 by decide)] <;> generalize Int.natAbs _ = q0 at * <;> generalize Int.natAbs (fsm z n 0) = p0 at * <;> generalize Int.natAbs (fsm z n 1) = p1 at * <;> generalize Int.natAbs (fsm z n 2) = p2 at * <;> generalize Int.natAbs (fsm z n 3) = p3 at * <;> generalize u.natAbs = pu at * <;> omega
theorem fld_sum (z : Nat → Int) (n : Nat) : (fldV z n 0).natAbs + (fldV z n 1).natAbs + (fldV z n 2).natAbs + (fldV z n 3).natAbs ≤ 1073741824 := by
  unfold fldV
  by_cases h : rowE z n = 0
  · simp only [if_pos h]
    unfold rowE at h
    split at h
    · cases h
    · split at h
      · cases h
      · rename_i h1 h2
        have := fsm_sum (farB_not.1 (Bool.eq_false_iff.2 h2))
        omega
  · simp only [if_neg h]; decide
theorem sq_bd {a : Int} (h : a.natAbs ≤ 1073741824) : 0 ≤ a * a ∧ a * a ≤ 1152921504606846976 := by
  have e : ((a.natAbs * a.natAbs : Nat) : Int) = a * a := by exact Int.natAbs_mul_self
  have := Nat.mul_le_mul h h
  omega
set_option maxHeartbeats 8000000 in
theorem tstrength_any {w : World} {A : Option Addr} {n c : Nat} {z : Nat → Int} (hR : IRow w .i64 A n z) (hn : n ≤ 9223372036854775000) :
    Calls Try.prog 12 #[.slice A n c] w fun e w' => e = .returned (.tuple #[.agg (vArr 4 (sqV (fldV z n))), .int .i64 (rowE z n)]) ∧ Below w.heap.size w w' := by
  have HR := Lib.hid hR
  clear hR
  obtain ⟨E, hE⟩ : ∃ E, rowE z n = E := ⟨_, rfl⟩
  obtain ⟨V, hV⟩ : ∃ V, fldV z n = V := ⟨_, rfl⟩
  have hVb : ∀ j, (bns V j).natAbs ≤ 1073741824 := fun j => by rw [← hV]; exact bns_of_sum (fld_sum z n) j
  rw [hV, hE]
  have HE := Lib.hid hE
  have HV := Lib.hid hV
  have HVb := Lib.hid hVb
  clear hE hV hVb
  obtain ⟨R, hR⟩ : ∃ R, vArr 4 (sqV V) = R := ⟨_, rfl⟩
  rw [hR]
  have HRr := Lib.hid hR
  clear hR
  have hq0 : Blk (w.alloc (.cells #[.int .i64 0, .int .i64 0, .int .i64 0, .int .i64 0] 24)) w.heap.size 24 (vArr 4 fun _ => .int .i64 0) := Blk.new w _ _
  have hB : Below w.heap.size w (w.alloc (.cells #[.int .i64 0, .int .i64 0, .int .i64 0, .int .i64 0] 24)) := (Below.refl _ w).alloc (Nat.le_refl _) _
  have hsz : (w.alloc (.cells #[.int .i64 0, .int .i64 0, .int .i64 0, .int .i64 0] 24)).heap.size = w.heap.size + 1 := by simp
  have H0 := Lib.hid hq0
  have HB := Lib.hid hB
  have HSz := Lib.hid hsz
  clear hq0 hB hsz
  go_enter Try.func12, Try.ntmps12
  go_wp2_with fail
  generalize World.alloc _ _ = w1 at *
  refine (tof_any (HR.out.keep HB.out) hn).mono ?_
  rw [HE.out, HV.out]
  have HBV : Hid (∀ j, bnV V j = .int .i64 (bns V j)) := Lib.hid fun _ => rfl
  rw [vArr_eight]
  rintro e w2 ⟨rfl, b2⟩
  have Q0 := Lib.hid (H0.out.below b2 (by rw [HSz.out]; omega))
  have QB := Lib.hid (HB.out.trans (b2.mono (by rw [HSz.out]; omega)))
  have hl2 : w.heap.size + 1 ≤ w2.heap.size := by have := b2.size; rw [HSz.out] at this; exact this
  clear b2 H0 HB HSz
  unfold bnV
  go_wp2_with fail
  have K0 : Blk ((w2.alloc (.cells #[.int .i64 (bns V 0), .int .i64 (bns V 1), .int .i64 (bns V 2), .int .i64 (bns V 3), .int .i64 (bns V 4), .int .i64 (bns V 5), .int .i64 (bns V 6), .int .i64 (bns V 7)] 29)).alloc (.cells #[.int .i64 0, .int .i64 0, .int .i64 0, .int .i64 0] 24)) w.heap.size 24 (vArr 4 fun _ => .int .i64 0) := (Q0.out.alloc _).alloc _
  have K1 : Blk ((w2.alloc (.cells #[.int .i64 (bns V 0), .int .i64 (bns V 1), .int .i64 (bns V 2), .int .i64 (bns V 3), .int .i64 (bns V 4), .int .i64 (bns V 5), .int .i64 (bns V 6), .int .i64 (bns V 7)] 29)).alloc (.cells #[.int .i64 0, .int .i64 0, .int .i64 0, .int .i64 0] 24)) (w2.heap.size + 1) 24 (vArr 4 (upTo_ (sqV V) (fun _ => .int .i64 0) 0)) := Blk.new_ (by simp)
  have KB : Below w.heap.size w ((w2.alloc (.cells #[.int .i64 (bns V 0), .int .i64 (bns V 1), .int .i64 (bns V 2), .int .i64 (bns V 3), .int .i64 (bns V 4), .int .i64 (bns V 5), .int .i64 (bns V 6), .int .i64 (bns V 7)] 29)).alloc (.cells #[.int .i64 0, .int .i64 0, .int .i64 0, .int .i64 0] 24)) := (QB.out.alloc (by omega) _).alloc (by simp; omega) _
  have Q0 := Lib.hid K0
  have Q1 := Lib.hid K1
  have QB := Lib.hid KB
  have HX : Hid (∀ k : Nat, k < 4 → ∀ w, (Instr.index 29 (.agg #[.int .i64 (bns V 0), .int .i64 (bns V 1), .int .i64 (bns V 2), .int .i64 (bns V 3), .int .i64 (bns V 4), .int .i64 (bns V 5), .int .i64 (bns V 6), .int .i64 (bns V 7)]) (.int .i64 (k : Int))).run Try.prog w = .ok (.agg #[.int .i64 (bns V (k * 2)), .int .i64 (bns V (k * 2 + 1))]) w) := Lib.hid fun k hk w => ix_pair (fun j => .int .i64 (bns V j)) k hk w
  clear K0 K1 KB
  generalize (Value.agg #[.int .i64 (bns V 0), .int .i64 (bns V 1), .int .i64 (bns V 2), .int .i64 (bns V 3), .int .i64 (bns V 4), .int .i64 (bns V 5), .int .i64 (bns V 6), .int .i64 (bns V 7)]) = AV at *
  generalize World.alloc _ _ = w3 at *
  go_loopw [7, 15] (fun a i wr => ∃ k : Nat, k ≤ 4 ∧ i = .int .i64 k ∧ Blk wr w.heap.size 24 (vArr 4 fun _ => .int .i64 0) ∧ Blk wr (w2.heap.size + 1) 24 (vArr 4 (upTo_ (sqV V) (fun _ => .int .i64 0) k)) ∧ Below w.heap.size w wr) (fun _ i _ => 4 - (intOf i).toNat)
  case atStart => exact ⟨0, by omega, rfl, Q0.out, Q1.out, QB.out⟩
  case round =>
    clear Q0 Q1 QB
    obtain ⟨k, hk, rfl, hq0, hq1, hB⟩ := hrel
    have Q0 := Lib.hid hq0
    have QB := Lib.hid hB
    clear hq0 hB
    by_cases hlt : k < 4
    · have i1 : (k : Int) < 4 := by omega
      have hix := HX.out k hlt
      have hab := HVb.out (k * 2)
      have hbb := HVb.out (k * 2 + 1)
      obtain ⟨a, ha⟩ : ∃ a, bns V (k * 2) = a := ⟨_, rfl⟩
      obtain ⟨b, hb⟩ : ∃ b, bns V (k * 2 + 1) = b := ⟨_, rfl⟩
      rw [ha, hb] at hix
      rw [ha] at hab
      rw [hb] at hbb
      obtain ⟨a0, a1⟩ := sq_bd hab
      obtain ⟨b0, b1⟩ := sq_bd hbb
      obtain ⟨aa, haa⟩ : ∃ x, a * a = x := ⟨_, rfl⟩
      obtain ⟨bb, hbb2⟩ : ∃ x, b * b = x := ⟨_, rfl⟩
      rw [haa] at a0 a1
      rw [hbb2] at b0 b1
      have hsq : sqV V k = .int .i64 (aa + bb) := by unfold sqV sqB; rw [ha, hb, haa, hbb2]
      have HSQ := Lib.hid hsq
      have hl3 := hq1.lt
      have K1 : Blk wr (w2.heap.size + 1) 24 (vArr 4 (upTo_ (sqV V) (fun _ => .int .i64 0) k)) := hq1
      have hcu : wr.cell? ⟨w2.heap.size + 1, k, none⟩ = some (.int .i64 0) := by rw [K1.cell, vArr_at 4 _ _ hlt]; unfold upTo_; rw [if_neg (by omega)]
      have hfu : wr.frozen? ⟨w2.heap.size + 1, k, none⟩ = false := K1.frozen _
      have Q1 := Lib.hid K1
      clear hq1 K1 hsq ha hb
      go_wp2_with fail
      go_roundw
      case rel =>
        refine ⟨k + 1, by omega, by go_num, (Q0.out.far (p := ⟨w2.heap.size + 1, k, none⟩) (by simp; omega) _).alloc _, ?_, (QB.out.setCell (p := ⟨w2.heap.size + 1, k, none⟩) (by simp; omega) _).alloc (by have := QB.out.size; simp [World.setCell]; omega) _⟩
        rw [← upTo_put, HSQ.out]
        exact (Q1.out.set_ k (.int .i64 (aa + bb))).alloc _
      case measure => simp [intOf]; omega
    · have i1 : ¬ (k : Int) < 4 := by omega
      obtain rfl : k = 4 := by omega
      rw [upTo_all] at hq1
      obtain ⟨v0, hv0⟩ : ∃ v, sqB V 0 = v := ⟨_, rfl⟩
      have c0 : wr.cell? ⟨w2.heap.size + 1, 0, none⟩ = some (.int .i64 v0) := by rw [hq1.cell, vArr_at 4 _ _ (by decide)]; unfold sqV; rw [hv0]
      have HV0 := Lib.hid hv0
      have d0 : wr.cell? ⟨w.heap.size, 0, none⟩ = some (.int .i64 0) := Q0.out.cell 0
      have g0 := Q0.out.frozen 0
      obtain ⟨v1, hv1⟩ : ∃ v, sqB V 1 = v := ⟨_, rfl⟩
      have c1 : wr.cell? ⟨w2.heap.size + 1, 1, none⟩ = some (.int .i64 v1) := by rw [hq1.cell, vArr_at 4 _ _ (by decide)]; unfold sqV; rw [hv1]
      have HV1 := Lib.hid hv1
      have d1 : wr.cell? ⟨w.heap.size, 1, none⟩ = some (.int .i64 0) := Q0.out.cell 1
      have g1 := Q0.out.frozen 1
      obtain ⟨v2, hv2⟩ : ∃ v, sqB V 2 = v := ⟨_, rfl⟩
      have c2 : wr.cell? ⟨w2.heap.size + 1, 2, none⟩ = some (.int .i64 v2) := by rw [hq1.cell, vArr_at 4 _ _ (by decide)]; unfold sqV; rw [hv2]
      have HV2 := Lib.hid hv2
      have d2 : wr.cell? ⟨w.heap.size, 2, none⟩ = some (.int .i64 0) := Q0.out.cell 2
      have g2 := Q0.out.frozen 2
      obtain ⟨v3, hv3⟩ : ∃ v, sqB V 3 = v := ⟨_, rfl⟩
      have c3 : wr.cell? ⟨w2.heap.size + 1, 3, none⟩ = some (.int .i64 v3) := by rw [hq1.cell, vArr_at 4 _ _ (by decide)]; unfold sqV; rw [hv3]
      have HV3 := Lib.hid hv3
      have d3 : wr.cell? ⟨w.heap.size, 3, none⟩ = some (.int .i64 0) := Q0.out.cell 3
      have g3 := Q0.out.frozen 3
      clear hq1 hv0 hv1 hv2 hv3
      go_wp2_with fail
      rw [← HV0.out, ← HV1.out, ← HV2.out, ← HV3.out]
      refine bodyPost_ret (v := .tuple #[.agg (vArr 4 (sqV V)), .int .i64 E]) (results_cell_tmp (a := ⟨w.heap.size, 0, none⟩) Try.results12 (by rfl) ((Q0.out.put4 rfl (sqV V)).run_load Try.underlying24 rfl tinfo4) rfl) rfl ?_
      exact ⟨by rw [HRr.out], below4 QB.out (by omega) (sqV V)⟩
/-- A wave's 32 levels, each twice, less 31. -/
def wrw (z : Nat → Int) (i : Nat) : Int := 2 * (z i % 32) - 31
theorem wrw_bd (z : Nat → Int) (i : Nat) : -31 ≤ wrw z i ∧ wrw z i ≤ 31 := by unfold wrw; omega
theorem wrw_ok (z : Nat → Int) : rowE (wrw z) 32 = 0 ∧ ∀ r, fldV (wrw z) 32 r = fsm (wrw z) 32 r := by
  have h : farB (wrw z) 262144 32 = false := farB_not.2 fun i _ => by have := wrw_bd z i; omega
  have e : rowE (wrw z) 32 = 0 := by unfold rowE; rw [if_neg (by decide), h]; rfl
  exact ⟨e, fun r => by unfold fldV; rw [if_pos e]⟩
theorem irow_blk {w : World} {g : Nat} {t : TypeId} {k : IntKind} {n : Nat} {z : Nat → Int} (h : Blk w g t (iArr k n z)) (hw : ∀ i, i < n → (Lit.int k (z i)).wf = true) : IRow w k (some ⟨g, 0, none⟩) n z := fun i hi =>
  ⟨_, rfl, h.lt, by rw [add_zero_block, h.cell, iArr_at k n z i hi], hw i hi⟩
theorem tinfoL : (Try.prog.info? 39).map (·.size) = some 32 := by kernel_rfl
theorem tinfoR : (Try.prog.info? 60).map (fun i => (i.zero, i.size)) = some (some (.agg (iArr .i64 32 fun _ => 0)), 32) := by kernel_rfl
theorem tzeroR (w : World) : (zeroValue 60).run Try.prog w = .ok (.agg (iArr .i64 32 fun _ => 0)) w := (zero_of_info tinfoR).1 w
theorem ix_lvl (z : Nat → Int) (k : Nat) (hk : k < 32) (w : World) : (Instr.index 39 (.agg (iArr .u8 32 z)) (.int .i64 (k : Int))).run Try.prog w = .ok (.int .u8 (z k)) w :=
  run_index_agg Try.underlying39 (by kernel_rfl) (by omega) (by omega) (iArr_at .u8 32 z k hk) w
theorem upTo_iset (k : IntKind) (n : Nat) (F : Nat → Int) (j : Nat) : (iArr k n fun i => if i < j then F i else 0).setIfInBounds j (.int k (F j)) = iArr k n fun i => if i < j + 1 then F i else 0 := by
  rw [iArr_set]
  exact iArr_congr fun i _ => by
    by_cases h1 : i = j
    · subst h1; rw [if_pos rfl, if_pos (by omega)]
    · rw [if_neg h1]
      by_cases h2 : i < j
      · rw [if_pos h2, if_pos (by omega)]
      · rw [if_neg h2, if_neg (by omega)]
set_option maxHeartbeats 8000000 in
theorem twave_any (z : Nat → Int) (hz : ∀ i, 0 ≤ z i ∧ z i ≤ 255) (w : World) :
    Calls Try.prog 19 #[.agg (iArr .u8 32 z)] w fun e w' => e = .returned (.agg (vArr 8 (bnV (fsm (wrw z) 32)))) ∧ Below w.heap.size w w' := by
  have HZ := Lib.hid hz
  have hzR := tzeroR
  have hL : Hid ((Try.prog.info? 39).map (·.size) = some (iArr .u8 32 z).size) := Lib.hid (by rw [iArr_size]; exact tinfoL)
  clear hz
  obtain ⟨R, hR⟩ : ∃ R, vArr 8 (bnV (fsm (wrw z) 32)) = R := ⟨_, rfl⟩
  rw [hR]
  have HRr := Lib.hid hR
  clear hR
  have hq2 : Blk (((w.alloc (.cells (iArr .u8 32 z) 39)).alloc (.cells #[.int .i64 0, .int .i64 0, .int .i64 0, .int .i64 0, .int .i64 0, .int .i64 0, .int .i64 0, .int .i64 0] 29)).alloc (.cells (iArr .i64 32 fun _ => 0) 60)) w.heap.size 39 (iArr .u8 32 z) := Blk.alloc (Blk.alloc (Blk.new w _ _) _) _
  have hq0 : Blk (((w.alloc (.cells (iArr .u8 32 z) 39)).alloc (.cells #[.int .i64 0, .int .i64 0, .int .i64 0, .int .i64 0, .int .i64 0, .int .i64 0, .int .i64 0, .int .i64 0] 29)).alloc (.cells (iArr .i64 32 fun _ => 0) 60)) (w.heap.size + 1) 29 (vArr 8 fun _ => .int .i64 0) := Blk.alloc (Blk.new_ (by simp)) _
  have hq1 : Blk (((w.alloc (.cells (iArr .u8 32 z) 39)).alloc (.cells #[.int .i64 0, .int .i64 0, .int .i64 0, .int .i64 0, .int .i64 0, .int .i64 0, .int .i64 0, .int .i64 0] 29)).alloc (.cells (iArr .i64 32 fun _ => 0) 60)) (w.heap.size + 1 + 1) 60 (iArr .i64 32 fun _ => 0) := Blk.new_ (by simp)
  have hB : Below w.heap.size w (((w.alloc (.cells (iArr .u8 32 z) 39)).alloc (.cells #[.int .i64 0, .int .i64 0, .int .i64 0, .int .i64 0, .int .i64 0, .int .i64 0, .int .i64 0, .int .i64 0] 29)).alloc (.cells (iArr .i64 32 fun _ => 0) 60)) := (((Below.refl _ w).alloc (Nat.le_refl _) _).alloc (by simp) _).alloc (by simp; omega) _
  have H0 := Lib.hid hq0
  have H1 := Lib.hid hq1
  have H2 := Lib.hid hq2
  have HB := Lib.hid hB
  clear hq0 hq1 hq2 hB
  go_enter Try.func19, Try.ntmps19
  go_wp2_with (refine wpList_load_row rfl 39 (.tmp 1) rfl w.heap.size (by rfl) 39 (iArr .u8 32 z) (0, 0) _ H2.out Try.underlying39 rfl hL.out ?_)
  have HX : Hid (∀ k : Nat, k < 32 → ∀ w, (Instr.index 39 (.agg (iArr .u8 32 z)) (.int .i64 (k : Int))).run Try.prog w = .ok (.int .u8 (z k)) w) := Lib.hid fun k hk w => ix_lvl z k hk w
  clear hzR
  generalize World.alloc _ _ = w3 at *
  generalize (Value.agg (iArr .u8 32 z)) = AV at *
  go_loopw [4, 5, 9] (fun a b i wr => ∃ k : Nat, k ≤ 32 ∧ i = .int .i64 k ∧ Blk wr (w.heap.size + 1) 29 (vArr 8 fun _ => .int .i64 0) ∧ Blk wr (w.heap.size + 1 + 1) 60 (iArr .i64 32 fun i => if i < k then wrw z i else 0) ∧ Below w.heap.size w wr) (fun _ _ i _ => 32 - (intOf i).toNat)
  case atStart => exact ⟨0, by omega, rfl, H0.out, by simpa using H1.out, HB.out⟩
  case round =>
    clear H0 H1 H2 HB
    obtain ⟨k, hk, rfl, hq0, hq1, hB⟩ := hrel
    have Q0 := Lib.hid hq0
    have Q1 := Lib.hid hq1
    have QB := Lib.hid hB
    clear hq0 hB
    by_cases hlt : k < 32
    · have i1 : (k : Int) < 32 := by omega
      have i2 : (0 : Int) ≤ (k : Int) := by omega
      have hix := HX.out k hlt
      obtain ⟨z0, z1⟩ := HZ.out k
      obtain ⟨v, hv⟩ : ∃ v, z k = v := ⟨_, rfl⟩
      have hw : wrw z k = 2 * (v % 32) - 31 := by unfold wrw; rw [hv]
      have HW := Lib.hid hw
      rw [hv] at hix z0 z1
      have hmod : v.tmod 32 = v % 32 := Int.tmod_eq_emod_of_nonneg z0
      have hcu : wr.cell? ⟨w.heap.size + 1 + 1, k, none⟩ = some (.int .i64 0) := by rw [hq1.cell, iArr_at .i64 32 _ _ hlt, if_neg (by omega)]
      have hfu : wr.frozen? ⟨w.heap.size + 1 + 1, k, none⟩ = false := hq1.frozen _
      clear hq1 hv hw
      go_wp2_with fail
      go_roundw
      case rel =>
        refine ⟨k + 1, by omega, by go_num, Q0.out.far (p := ⟨w.heap.size + 1 + 1, k, none⟩) (by simp) _, ?_, QB.out.setCell (p := ⟨w.heap.size + 1 + 1, k, none⟩) (by simp; omega) _⟩
        rw [← upTo_iset, HW.out]
        exact Q1.out.set_ k _
      case measure => simp [intOf]; omega
    · have i1 : ¬ (k : Int) < 32 := by omega
      obtain rfl : k = 32 := by omega
      have hrow : iArr .i64 32 (fun i => if i < 32 then wrw z i else 0) = iArr .i64 32 (wrw z) := iArr_congr fun i hi => by rw [if_pos hi]
      rw [hrow] at hq1
      have hIR := irow_blk hq1 fun i _ => WalkArith.wf_i64 (by have := wrw_bd z i; omega)
      have HIR := Lib.hid hIR
      have hl1 := hq1.lt
      clear hq1 hIR hrow Q1
      obtain ⟨e0, f0⟩ := wrw_ok z
      have E0 := Lib.hid e0
      have F0 := Lib.hid (show vArr 8 (bnV (fldV (wrw z) 32)) = vArr 8 (bnV (fsm (wrw z) 32)) from vArr_congr fun j _ => by unfold bnV; rw [bns_congr fun i _ => f0 i])
      clear e0 f0
      go_wp2_with fail
      refine (tof_any (z := wrw z) (n := 32) HIR.out (by decide)).mono ?_
      rw [E0.out, F0.out]
      obtain ⟨r0, hr0⟩ : ∃ r, bns (fsm (wrw z) 32) 0 = r := ⟨_, rfl⟩
      obtain ⟨r1, hr1⟩ : ∃ r, bns (fsm (wrw z) 32) 1 = r := ⟨_, rfl⟩
      obtain ⟨r2, hr2⟩ : ∃ r, bns (fsm (wrw z) 32) 2 = r := ⟨_, rfl⟩
      obtain ⟨r3, hr3⟩ : ∃ r, bns (fsm (wrw z) 32) 3 = r := ⟨_, rfl⟩
      obtain ⟨r4, hr4⟩ : ∃ r, bns (fsm (wrw z) 32) 4 = r := ⟨_, rfl⟩
      obtain ⟨r5, hr5⟩ : ∃ r, bns (fsm (wrw z) 32) 5 = r := ⟨_, rfl⟩
      obtain ⟨r6, hr6⟩ : ∃ r, bns (fsm (wrw z) 32) 6 = r := ⟨_, rfl⟩
      obtain ⟨r7, hr7⟩ : ∃ r, bns (fsm (wrw z) 32) 7 = r := ⟨_, rfl⟩
      have hR8 : vArr 8 (bnV (fsm (wrw z) 32)) = #[.int .i64 r0, .int .i64 r1, .int .i64 r2, .int .i64 r3, .int .i64 r4, .int .i64 r5, .int .i64 r6, .int .i64 r7] := by rw [← hr0, ← hr1, ← hr2, ← hr3, ← hr4, ← hr5, ← hr6, ← hr7]; rfl
      have HR8 := Lib.hid hR8
      rw [hR8]
      clear hR8 hr0 hr1 hr2 hr3 hr4 hr5 hr6 hr7
      rintro e w4 ⟨rfl, b4⟩
      have hl4 := b4.size
      have K0 : Blk (w4.alloc (.cells #[.int .i64 r0, .int .i64 r1, .int .i64 r2, .int .i64 r3, .int .i64 r4, .int .i64 r5, .int .i64 r6, .int .i64 r7] 29)) (w.heap.size + 1) 29 (vArr 8 fun _ => .int .i64 0) := (Q0.out.below b4 (by omega)).alloc _
      have KB : Below w.heap.size w (w4.alloc (.cells #[.int .i64 r0, .int .i64 r1, .int .i64 r2, .int .i64 r3, .int .i64 r4, .int .i64 r5, .int .i64 r6, .int .i64 r7] 29)) := (QB.out.trans (b4.mono (by omega))).alloc (by omega) _
      have K1 : Blk (w4.alloc (.cells #[.int .i64 r0, .int .i64 r1, .int .i64 r2, .int .i64 r3, .int .i64 r4, .int .i64 r5, .int .i64 r6, .int .i64 r7] 29)) w4.heap.size 29 #[.int .i64 r0, .int .i64 r1, .int .i64 r2, .int .i64 r3, .int .i64 r4, .int .i64 r5, .int .i64 r6, .int .i64 r7] := Blk.new w4 _ _
      have d0 : (w4.alloc (.cells #[.int .i64 r0, .int .i64 r1, .int .i64 r2, .int .i64 r3, .int .i64 r4, .int .i64 r5, .int .i64 r6, .int .i64 r7] 29)).cell? ⟨w.heap.size + 1, 0, none⟩ = some (.int .i64 0) := K0.cell 0
      have g0 := K0.frozen 0
      have c0 : (w4.alloc (.cells #[.int .i64 r0, .int .i64 r1, .int .i64 r2, .int .i64 r3, .int .i64 r4, .int .i64 r5, .int .i64 r6, .int .i64 r7] 29)).cell? ⟨w4.heap.size, 0, none⟩ = some (.int .i64 r0) := K1.cell 0
      have d1 : (w4.alloc (.cells #[.int .i64 r0, .int .i64 r1, .int .i64 r2, .int .i64 r3, .int .i64 r4, .int .i64 r5, .int .i64 r6, .int .i64 r7] 29)).cell? ⟨w.heap.size + 1, 1, none⟩ = some (.int .i64 0) := K0.cell 1
      have g1 := K0.frozen 1
      have c1 : (w4.alloc (.cells #[.int .i64 r0, .int .i64 r1, .int .i64 r2, .int .i64 r3, .int .i64 r4, .int .i64 r5, .int .i64 r6, .int .i64 r7] 29)).cell? ⟨w4.heap.size, 1, none⟩ = some (.int .i64 r1) := K1.cell 1
      have d2 : (w4.alloc (.cells #[.int .i64 r0, .int .i64 r1, .int .i64 r2, .int .i64 r3, .int .i64 r4, .int .i64 r5, .int .i64 r6, .int .i64 r7] 29)).cell? ⟨w.heap.size + 1, 2, none⟩ = some (.int .i64 0) := K0.cell 2
      have g2 := K0.frozen 2
      have c2 : (w4.alloc (.cells #[.int .i64 r0, .int .i64 r1, .int .i64 r2, .int .i64 r3, .int .i64 r4, .int .i64 r5, .int .i64 r6, .int .i64 r7] 29)).cell? ⟨w4.heap.size, 2, none⟩ = some (.int .i64 r2) := K1.cell 2
      have d3 : (w4.alloc (.cells #[.int .i64 r0, .int .i64 r1, .int .i64 r2, .int .i64 r3, .int .i64 r4, .int .i64 r5, .int .i64 r6, .int .i64 r7] 29)).cell? ⟨w.heap.size + 1, 3, none⟩ = some (.int .i64 0) := K0.cell 3
      have g3 := K0.frozen 3
      have c3 : (w4.alloc (.cells #[.int .i64 r0, .int .i64 r1, .int .i64 r2, .int .i64 r3, .int .i64 r4, .int .i64 r5, .int .i64 r6, .int .i64 r7] 29)).cell? ⟨w4.heap.size, 3, none⟩ = some (.int .i64 r3) := K1.cell 3
      have d4 : (w4.alloc (.cells #[.int .i64 r0, .int .i64 r1, .int .i64 r2, .int .i64 r3, .int .i64 r4, .int .i64 r5, .int .i64 r6, .int .i64 r7] 29)).cell? ⟨w.heap.size + 1, 4, none⟩ = some (.int .i64 0) := K0.cell 4
      have g4 := K0.frozen 4
      have c4 : (w4.alloc (.cells #[.int .i64 r0, .int .i64 r1, .int .i64 r2, .int .i64 r3, .int .i64 r4, .int .i64 r5, .int .i64 r6, .int .i64 r7] 29)).cell? ⟨w4.heap.size, 4, none⟩ = some (.int .i64 r4) := K1.cell 4
      have d5 : (w4.alloc (.cells #[.int .i64 r0, .int .i64 r1, .int .i64 r2, .int .i64 r3, .int .i64 r4, .int .i64 r5, .int .i64 r6, .int .i64 r7] 29)).cell? ⟨w.heap.size + 1, 5, none⟩ = some (.int .i64 0) := K0.cell 5
      have g5 := K0.frozen 5
      have c5 : (w4.alloc (.cells #[.int .i64 r0, .int .i64 r1, .int .i64 r2, .int .i64 r3, .int .i64 r4, .int .i64 r5, .int .i64 r6, .int .i64 r7] 29)).cell? ⟨w4.heap.size, 5, none⟩ = some (.int .i64 r5) := K1.cell 5
      have d6 : (w4.alloc (.cells #[.int .i64 r0, .int .i64 r1, .int .i64 r2, .int .i64 r3, .int .i64 r4, .int .i64 r5, .int .i64 r6, .int .i64 r7] 29)).cell? ⟨w.heap.size + 1, 6, none⟩ = some (.int .i64 0) := K0.cell 6
      have g6 := K0.frozen 6
      have c6 : (w4.alloc (.cells #[.int .i64 r0, .int .i64 r1, .int .i64 r2, .int .i64 r3, .int .i64 r4, .int .i64 r5, .int .i64 r6, .int .i64 r7] 29)).cell? ⟨w4.heap.size, 6, none⟩ = some (.int .i64 r6) := K1.cell 6
      have d7 : (w4.alloc (.cells #[.int .i64 r0, .int .i64 r1, .int .i64 r2, .int .i64 r3, .int .i64 r4, .int .i64 r5, .int .i64 r6, .int .i64 r7] 29)).cell? ⟨w.heap.size + 1, 7, none⟩ = some (.int .i64 0) := K0.cell 7
      have g7 := K0.frozen 7
      have c7 : (w4.alloc (.cells #[.int .i64 r0, .int .i64 r1, .int .i64 r2, .int .i64 r3, .int .i64 r4, .int .i64 r5, .int .i64 r6, .int .i64 r7] 29)).cell? ⟨w4.heap.size, 7, none⟩ = some (.int .i64 r7) := K1.cell 7
      have Q0 := Lib.hid K0
      have QB := Lib.hid KB
      clear b4 K0 K1 KB
      go_upto_region 8 with fail
      generalize World.alloc _ _ = w5 at *
      go_wp2_with fail
      refine bodyPost_ret (v := .agg (vArr 8 (bnV (fsm (wrw z) 32)))) (results_cell (a := ⟨w.heap.size + 1, 0, none⟩) Try.results19 (by rfl) ((show Blk _ (w.heap.size + 1) 29 (vArr 8 (bnV (fsm (wrw z) 32))) from HR8.out ▸ Q0.out.put8 rfl (fun j => #[r0, r1, r2, r3, r4, r5, r6, r7][j]?.elim undef (.int .i64))).run_load Try.underlying29 rfl tinfo42)) rfl ?_
      exact ⟨by rw [HRr.out], below8 QB.out (by omega) (fun j => #[r0, r1, r2, r3, r4, r5, r6, r7][j]?.elim undef (.int .i64))⟩
end Go.Proofs.Ytnelcbbjnpaodaa
