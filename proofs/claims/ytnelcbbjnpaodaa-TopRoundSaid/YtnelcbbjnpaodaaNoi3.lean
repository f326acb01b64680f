/-
  Noise: the matrix of a step on, of one back, and of a matrix led through twice.
-/
import Derived.Test.YtnelcbbjnpaodaaNoi2
import Derived.Test.YtnelcbbjnpaodaaG14
import Derived.Laws.CopyOwn
namespace Go.Proofs.Ytnelcbbjnpaodaa
open Go.RowKit
set_option linter.unusedVariables false
set_option linter.unusedSimpArgs false
set_option maxRecDepth 100000
theorem infoM : (Try.prog.info? 78).map (fun i => (i.zero, i.size)) = some (some (.agg (iArr .u32 18 fun _ => 0)), 18) := by kernel_rfl
theorem zeroM (w : World) : (zeroValue 78).run Try.prog w = .ok (.agg (iArr .u32 18 fun _ => 0)) w := (zero_of_info infoM).1 w
theorem sizeM : (Try.prog.info? 78).map (·.size) = some 18 := (zero_of_info infoM).2
/-- A matrix of which the first columns stand. -/
def mMid (F : Nat → Nat) (k : Nat) : Array Value := iArr .u32 18 fun i => if i < k then ((F (2 ^ i) : Nat) : Int) else 0
theorem mMid_zero (F : Nat → Nat) : mMid F 0 = iArr .u32 18 fun _ => 0 := iArr_congr fun i _ => by rw [if_neg (by omega)]
theorem mMid_all (F : Nat → Nat) : mMid F 18 = mArr F := iArr_congr fun i hi => by rw [if_pos hi]
theorem mMid_at (F : Nat → Nat) (k : Nat) (hk : k < 18) : (mMid F k)[k]? = some (.int .u32 0) := by
  unfold mMid; rw [iArr_at _ _ _ k hk, if_neg (by omega)]
theorem mMid_set (F : Nat → Nat) (k : Nat) : (mMid F k).setIfInBounds k (.int .u32 ((F (2 ^ k) : Nat) : Int)) = mMid F (k + 1) := by
  unfold mMid
  rw [iArr_set]
  refine iArr_congr fun i _ => ?_
  by_cases h : i = k
  · subst h; rw [if_pos rfl, if_pos (by omega)]
  · rw [if_neg h]
    by_cases h2 : i < k
    · rw [if_pos h2, if_pos (by omega)]
    · rw [if_neg h2, if_neg (by omega)]
set_option maxHeartbeats 1000000 in
theorem twice_any {F : Nat → Nat} (hF : Lin F) (s : Nat) (hs : s < 2 ^ 18) (w : World) :
    Calls Try.prog 51 #[.agg (mArr F), .int .u32 s] w fun e w' => e = .returned (.int .u32 (F (F s) : Nat)) ∧ Below w.heap.size w w' := by
  have hz := mArr_size F
  have h1 : (Try.prog.info? 78).map (·.size) = some (mArr F).size := by rw [mArr_size]; exact sizeM
  have H1 := Lib.hid h1
  clear h1
  go_enter Try.func51, Try.ntmps51
  go_wp2_with fail
  have HX := Lib.hid (Blk.new w 78 (mArr F))
  have HB := Lib.hid (((Below.refl w.heap.size w).alloc (Nat.le_refl _) (.cells (mArr F) 78)).drew)
  generalize w.alloc _ = w1 at *
  generalize hg : w.heap.size = g at *
  have HG := Lib.hid hg
  clear hg hz
  refine rg_begin (S := fun w' => Blk w' g 78 (mArr F)) 6 #[false, false, false, false, false, false] (by kernel_rfl) (by kernel_rfl) (by kernel_rfl) ?_ (fun hHeld => ?_)
  · exact HX.out
  refine rg_take (i := 0) (d := some 5) (l := #[true, false, false, false, false, false]) (fuel := 5) (v := .agg (mArr F)) rfl (by kernel_rfl) (by kernel_rfl) (by kernel_rfl) (by kernel_rfl) (by kernel_rfl) (fun _ _ _ h => h) (by kernel_rfl) ?_ (by assumption) ?_
  · (intro wS hSw; (try dsimp only at hSw); exact exec_load_row 78 (.tmp 2) rfl g rfl 78 (mArr F) (0, 0) _ hSw Try.underlying78 rfl H1.out)
  try simp only [Act.put, List.setIfInBounds_toArray, List.set_cons_zero, List.set_cons_succ]
  refine rg_take (i := 1) (d := some 6) (l := #[true, true, false, false, false, false]) (fuel := 4) (v := .agg (mArr F)) rfl (by kernel_rfl) (by kernel_rfl) (by kernel_rfl) (by kernel_rfl) (by kernel_rfl) (fun _ _ _ h => h) (by kernel_rfl) ?_ (by assumption) ?_
  · (intro wS hSw; (try dsimp only at hSw); exact exec_load_row 78 (.tmp 2) rfl g rfl 78 (mArr F) (0, 0) _ hSw Try.underlying78 rfl H1.out)
  try simp only [Act.put, List.setIfInBounds_toArray, List.set_cons_zero, List.set_cons_succ]
  refine rg_take (i := 2) (d := some 7) (l := #[true, true, true, false, false, false]) (fuel := 3) (v := ?_) rfl (by kernel_rfl) (by kernel_rfl) (by kernel_rfl) (by kernel_rfl) (by kernel_rfl) (fun _ _ _ h => h) (by kernel_rfl) ?_ (by assumption) ?_
  rotate_left 1
  · (intro wS hSw; (try dsimp only at hSw); go_simp; try with_reducible rfl)
  try simp only [Act.put, List.setIfInBounds_toArray, List.set_cons_zero, List.set_cons_succ]
  refine rg_next (i := 3) (l := #[true, true, true, true, false, false]) (fuel := 2) (by kernel_rfl) rfl (by kernel_rfl) (by kernel_rfl) (fun K hK => ?_)
  go_simp
  (go_at_call 50)
  refine (leads_any hF s hs _).mono ?_
  rintro e w2 ⟨rfl, b2⟩
  replace HX := Lib.hid (HX.out.drew_.below b2 HX.out.lt)
  have hl := HB.out.size
  replace HB := Lib.hid (HB.out.trans (b2.mono (by have := HG.out; omega)))
  clear b2 hl
  first | (refine hK.out _ _ ?_ (fun hHeld => ?_)) | (go_wp2_with fail; refine hK.out _ _ ?_ (fun hHeld => ?_))
  · (try dsimp only); exact HX.out
  clear hK K
  try simp only [Act.put, List.setIfInBounds_toArray, List.set_cons_zero, List.set_cons_succ]
  refine rg_next (i := 4) (l := #[true, true, true, true, true, false]) (fuel := 1) (by kernel_rfl) rfl (by kernel_rfl) (by kernel_rfl) (fun K hK => ?_)
  go_simp
  (go_at_call 50)
  refine (leads_any hF (F s) (hF.lt _ hs) _).mono ?_
  rintro e w3 ⟨rfl, b3⟩
  replace HX := Lib.hid (HX.out.below b3 HX.out.lt)
  have hl := HB.out.size
  replace HB := Lib.hid (HB.out.trans (b3.mono (by have := HG.out; omega)))
  clear b3 hl
  first | (refine hK.out _ _ ?_ (fun hHeld => ?_)) | (go_wp2_with fail; refine hK.out _ _ ?_ (fun hHeld => ?_))
  · (try dsimp only); exact HX.out
  clear hK K
  try simp only [Act.put, List.setIfInBounds_toArray, List.set_cons_zero, List.set_cons_succ]
  refine rg_take (i := 5) (d := some 4) (l := #[true, true, true, true, true, true]) (fuel := 0) (v := ?_) rfl (by kernel_rfl) (by kernel_rfl) (by kernel_rfl) (by kernel_rfl) (by kernel_rfl) (fun _ _ _ h => h) (by kernel_rfl) ?_ (by assumption) ?_
  rotate_left 1
  · (intro wS hSw; (try dsimp only at hSw); go_simp; try with_reducible rfl)
  try simp only [Act.put, List.setIfInBounds_toArray, List.set_cons_zero, List.set_cons_succ]
  refine wpAnyH_done (by kernel_rfl) ?_ _
  go_wp2_with fail
  go_ret
  exact ⟨rfl, by rw [HG.out]; exact HB.out⟩
theorem next_p (p : Nat) (hp : p < 262144) (w : World) : Calls Try.prog 48 #[.int .u32 p] w fun e w' => e = .returned (.int .u32 (nx p : Nat)) ∧ Below w.heap.size w w' := by
  have := next_any p (by omega) w
  rwa [Nat.mod_eq_of_lt hp] at this
theorem back_p (p : Nat) (hp : p < 262144) (w : World) : Calls Try.prog 49 #[.int .u32 p] w fun e w' => e = .returned (.int .u32 (bk p : Nat)) ∧ Below w.heap.size w w' := by
  have := back_any p (by omega) w
  rwa [Nat.mod_eq_of_lt hp] at this
theorem twice_p {F : Nat → Nat} (hF : Lin F) (p : Nat) (hp : p < 262144) (w : World) : Calls Try.prog 51 #[.agg (mArr F), .int .u32 p] w fun e w' => e = .returned (.int .u32 ((fun s => F (F s)) p : Nat)) ∧ Below w.heap.size w w' := twice_any hF p hp w
set_option maxHeartbeats 2000000 in
theorem of_next (w : World) :
    Calls Try.prog 47 #[.func (.func 48) #[] #[]] w fun e w' => e = .returned (.agg (mArr nx)) ∧ Below w.heap.size w w' := by
  have hz0 := zeroM
  go_enter Try.func47, Try.ntmps47
  go_wp2_with fail
  clear hz0
  have hb0 : Blk ((w.alloc (.cells (iArr .u32 18 fun _ => 0) 78)).alloc (.cells (iArr .u32 18 fun _ => 0) 78)) w.heap.size 78 (iArr .u32 18 fun _ => 0) := (Blk.new w _ _).alloc _
  have hb1 : Blk ((w.alloc (.cells (iArr .u32 18 fun _ => 0) 78)).alloc (.cells (iArr .u32 18 fun _ => 0) 78)) (w.heap.size + 1) 78 (mMid nx 0) := by rw [mMid_zero]; exact Blk.new_ (by simp)
  have hB0 : Below w.heap.size w ((w.alloc (.cells (iArr .u32 18 fun _ => 0) 78)).alloc (.cells (iArr .u32 18 fun _ => 0) 78)) := ((Below.refl _ _).alloc (Nat.le_refl _) _).alloc (by simp) _
  generalize hgg : w.heap.size = g at *
  have HGG := Lib.hid hgg
  clear hgg
  have H0 := Lib.hid hb0
  have H1 := Lib.hid hb1
  have HB := Lib.hid hB0
  clear hb0 hb1 hB0
  generalize World.alloc _ _ = w0 at *
  go_loopw [5] (fun i wr => ∃ k : Nat, k ≤ 18 ∧ i = .int .i64 k ∧ Blk wr g 78 (iArr .u32 18 fun _ => 0) ∧ Blk wr (g + 1) 78 (mMid nx k) ∧ Below g w wr) (fun i _ => 18 - (intOf i).toNat)
  case atStart => exact ⟨0, by omega, rfl, H0.out, H1.out, HB.out⟩
  case round =>
    obtain ⟨k, hk, rfl, hg, ho, hB⟩ := hrel
    have zB := hB.size
    rw [HGG.out] at zB
    have hol := ho.lt
    clear H0 H1 HB
    by_cases hlt : k < 18
    · have hp : 2 ^ k < 262144 := Nat.pow_lt_pow_right (by omega) hlt
      have ep0 : ((2 : Int) ^ k) = ((2 ^ k : Nat) : Int) := by simp
      obtain ⟨p, hpp⟩ : ∃ p : Nat, 2 ^ k = p := ⟨_, rfl⟩
      rw [hpp] at hp ep0
      have ep : IntKind.u32.wrap (2 ^ k) = (p : Int) := by
        rw [ep0]; exact IntWalk.u32_in _ (by omega)
      clear ep0
      have i0 : (0 : Int) ≤ (k : Int) := by omega
      have i1 : (k : Int) < 18 := by omega
      have i2 : (k : Int) ≤ 32 := by omega
      have HP := Lib.hid hpp
      have HG := Lib.hid hg
      have HO := Lib.hid ho
      have HB := Lib.hid hB
      clear hg ho hB hpp
      go_wp2_with fail
      refine (next_p p hp _).mono ?_
      rintro e w1 ⟨rfl, b1⟩
      have hgl : g < wr.heap.size := by omega
      have hol1 : g + 1 < wr.heap.size := by omega
      have G1 := Lib.hid (HG.out.below b1 hgl)
      have o1 := HO.out.below b1 hol1
      have fz := o1.frozen k
      have ck : w1.cell? ⟨g + 1, k, none⟩ = some (.int .u32 0) := by rw [o1.cell, mMid_at _ k hlt]
      have s1 := o1.set_ k (.int .u32 ((nx p : Nat) : Int))
      rw [← HP.out, mMid_set _ k] at s1
      rw [HP.out] at s1
      have S1 := Lib.hid s1
      have GS := Lib.hid (G1.out.far (p := ⟨g + 1, k, none⟩) (by simp) (.int .u32 ((nx p : Nat) : Int)))
      have BS := Lib.hid ((HB.out.trans (b1.mono (by omega))).setCell (p := ⟨g + 1, k, none⟩) (show g ≤ g + 1 by omega) (.int .u32 ((nx p : Nat) : Int)))
      clear o1 s1 b1 HG HO HB G1
      go_wp2_with fail
      go_roundw
      case rel => exact ⟨k + 1, by omega, by go_num, GS.out, S1.out, BS.out⟩
      case measure => simp [intOf]; omega
    · obtain rfl : k = 18 := by omega
      rw [mMid_all] at ho
      have hst := hg.run_store (P := Try.prog) (mArr nx) (by rw [iArr_size, mArr_size]) (mArr_one _)
      have hsz := mArr_size nx
      have h8 : (Try.prog.info? 78).map (·.size) = some (mArr nx).size := by rw [mArr_size]; exact sizeM
      have H8 := Lib.hid h8
      have hld := (hg.row (mArr nx)).run_load (P := Try.prog) Try.underlying78 rfl h8
      have HD := Lib.hid hld
      have hB2 := below_setRow hB (Nat.le_refl g) (mArr nx)
      clear h8 hld
      go_wp2_with (refine wpList_load_row rfl 78 (.tmp 3) rfl (g + 1) (by rfl) 78 (mArr nx) (0, 0) _ ho Try.underlying78 rfl H8.out ?_)
      refine bodyPost_ret (v := .agg (mArr nx)) (results_cell (a := ⟨g, 0, none⟩) Try.results47 (by rfl) HD.out) rfl ?_
      exact ⟨rfl, by rw [HGG.out]; exact hB2⟩
set_option maxHeartbeats 2000000 in
theorem of_back (w : World) :
    Calls Try.prog 47 #[.func (.func 49) #[] #[]] w fun e w' => e = .returned (.agg (mArr bk)) ∧ Below w.heap.size w w' := by
  have hz0 := zeroM
  go_enter Try.func47, Try.ntmps47
  go_wp2_with fail
  clear hz0
  have hb0 : Blk ((w.alloc (.cells (iArr .u32 18 fun _ => 0) 78)).alloc (.cells (iArr .u32 18 fun _ => 0) 78)) w.heap.size 78 (iArr .u32 18 fun _ => 0) := (Blk.new w _ _).alloc _
  have hb1 : Blk ((w.alloc (.cells (iArr .u32 18 fun _ => 0) 78)).alloc (.cells (iArr .u32 18 fun _ => 0) 78)) (w.heap.size + 1) 78 (mMid bk 0) := by rw [mMid_zero]; exact Blk.new_ (by simp)
  have hB0 : Below w.heap.size w ((w.alloc (.cells (iArr .u32 18 fun _ => 0) 78)).alloc (.cells (iArr .u32 18 fun _ => 0) 78)) := ((Below.refl _ _).alloc (Nat.le_refl _) _).alloc (by simp) _
  generalize hgg : w.heap.size = g at *
  have HGG := Lib.hid hgg
  clear hgg
  have H0 := Lib.hid hb0
  have H1 := Lib.hid hb1
  have HB := Lib.hid hB0
  clear hb0 hb1 hB0
  generalize World.alloc _ _ = w0 at *
  go_loopw [5] (fun i wr => ∃ k : Nat, k ≤ 18 ∧ i = .int .i64 k ∧ Blk wr g 78 (iArr .u32 18 fun _ => 0) ∧ Blk wr (g + 1) 78 (mMid bk k) ∧ Below g w wr) (fun i _ => 18 - (intOf i).toNat)
  case atStart => exact ⟨0, by omega, rfl, H0.out, H1.out, HB.out⟩
  case round =>
    obtain ⟨k, hk, rfl, hg, ho, hB⟩ := hrel
    have zB := hB.size
    rw [HGG.out] at zB
    have hol := ho.lt
    clear H0 H1 HB
    by_cases hlt : k < 18
    · have hp : 2 ^ k < 262144 := Nat.pow_lt_pow_right (by omega) hlt
      have ep0 : ((2 : Int) ^ k) = ((2 ^ k : Nat) : Int) := by simp
      obtain ⟨p, hpp⟩ : ∃ p : Nat, 2 ^ k = p := ⟨_, rfl⟩
      rw [hpp] at hp ep0
      have ep : IntKind.u32.wrap (2 ^ k) = (p : Int) := by
        rw [ep0]; exact IntWalk.u32_in _ (by omega)
      clear ep0
      have i0 : (0 : Int) ≤ (k : Int) := by omega
      have i1 : (k : Int) < 18 := by omega
      have i2 : (k : Int) ≤ 32 := by omega
      have HP := Lib.hid hpp
      have HG := Lib.hid hg
      have HO := Lib.hid ho
      have HB := Lib.hid hB
      clear hg ho hB hpp
      go_wp2_with fail
      refine (back_p p hp _).mono ?_
      rintro e w1 ⟨rfl, b1⟩
      have hgl : g < wr.heap.size := by omega
      have hol1 : g + 1 < wr.heap.size := by omega
      have G1 := Lib.hid (HG.out.below b1 hgl)
      have o1 := HO.out.below b1 hol1
      have fz := o1.frozen k
      have ck : w1.cell? ⟨g + 1, k, none⟩ = some (.int .u32 0) := by rw [o1.cell, mMid_at _ k hlt]
      have s1 := o1.set_ k (.int .u32 ((bk p : Nat) : Int))
      rw [← HP.out, mMid_set _ k] at s1
      rw [HP.out] at s1
      have S1 := Lib.hid s1
      have GS := Lib.hid (G1.out.far (p := ⟨g + 1, k, none⟩) (by simp) (.int .u32 ((bk p : Nat) : Int)))
      have BS := Lib.hid ((HB.out.trans (b1.mono (by omega))).setCell (p := ⟨g + 1, k, none⟩) (show g ≤ g + 1 by omega) (.int .u32 ((bk p : Nat) : Int)))
      clear o1 s1 b1 HG HO HB G1
      go_wp2_with fail
      go_roundw
      case rel => exact ⟨k + 1, by omega, by go_num, GS.out, S1.out, BS.out⟩
      case measure => simp [intOf]; omega
    · obtain rfl : k = 18 := by omega
      rw [mMid_all] at ho
      have hst := hg.run_store (P := Try.prog) (mArr bk) (by rw [iArr_size, mArr_size]) (mArr_one _)
      have hsz := mArr_size bk
      have h8 : (Try.prog.info? 78).map (·.size) = some (mArr bk).size := by rw [mArr_size]; exact sizeM
      have H8 := Lib.hid h8
      have hld := (hg.row (mArr bk)).run_load (P := Try.prog) Try.underlying78 rfl h8
      have HD := Lib.hid hld
      have hB2 := below_setRow hB (Nat.le_refl g) (mArr bk)
      clear h8 hld
      go_wp2_with (refine wpList_load_row rfl 78 (.tmp 3) rfl (g + 1) (by rfl) 78 (mArr bk) (0, 0) _ ho Try.underlying78 rfl H8.out ?_)
      refine bodyPost_ret (v := .agg (mArr bk)) (results_cell (a := ⟨g, 0, none⟩) Try.results47 (by rfl) HD.out) rfl ?_
      exact ⟨rfl, by rw [HGG.out]; exact hB2⟩
set_option maxHeartbeats 2000000 in
theorem of_twice {F : Nat → Nat} (hF : Lin F) (w : World) :
    Calls Try.prog 47 #[.func (.func 51) #[.agg (mArr F)] #[]] w fun e w' => e = .returned (.agg (mArr (fun s => F (F s)))) ∧ Below w.heap.size w w' := by
  have hz0 := zeroM
  go_enter Try.func47, Try.ntmps47
  go_wp2_with fail
  clear hz0
  have hb0 : Blk ((w.alloc (.cells (iArr .u32 18 fun _ => 0) 78)).alloc (.cells (iArr .u32 18 fun _ => 0) 78)) w.heap.size 78 (iArr .u32 18 fun _ => 0) := (Blk.new w _ _).alloc _
  have hb1 : Blk ((w.alloc (.cells (iArr .u32 18 fun _ => 0) 78)).alloc (.cells (iArr .u32 18 fun _ => 0) 78)) (w.heap.size + 1) 78 (mMid (fun s => F (F s)) 0) := by rw [mMid_zero]; exact Blk.new_ (by simp)
  have hB0 : Below w.heap.size w ((w.alloc (.cells (iArr .u32 18 fun _ => 0) 78)).alloc (.cells (iArr .u32 18 fun _ => 0) 78)) := ((Below.refl _ _).alloc (Nat.le_refl _) _).alloc (by simp) _
  generalize hgg : w.heap.size = g at *
  have HGG := Lib.hid hgg
  clear hgg
  have H0 := Lib.hid hb0
  have H1 := Lib.hid hb1
  have HB := Lib.hid hB0
  clear hb0 hb1 hB0
  generalize World.alloc _ _ = w0 at *
  go_loopw [5] (fun i wr => ∃ k : Nat, k ≤ 18 ∧ i = .int .i64 k ∧ Blk wr g 78 (iArr .u32 18 fun _ => 0) ∧ Blk wr (g + 1) 78 (mMid (fun s => F (F s)) k) ∧ Below g w wr) (fun i _ => 18 - (intOf i).toNat)
  case atStart => exact ⟨0, by omega, rfl, H0.out, H1.out, HB.out⟩
  case round =>
    obtain ⟨k, hk, rfl, hg, ho, hB⟩ := hrel
    have zB := hB.size
    rw [HGG.out] at zB
    have hol := ho.lt
    clear H0 H1 HB
    by_cases hlt : k < 18
    · have hp : 2 ^ k < 262144 := Nat.pow_lt_pow_right (by omega) hlt
      have ep0 : ((2 : Int) ^ k) = ((2 ^ k : Nat) : Int) := by simp
      obtain ⟨p, hpp⟩ : ∃ p : Nat, 2 ^ k = p := ⟨_, rfl⟩
      rw [hpp] at hp ep0
      have ep : IntKind.u32.wrap (2 ^ k) = (p : Int) := by
        rw [ep0]; exact IntWalk.u32_in _ (by omega)
      clear ep0
      have i0 : (0 : Int) ≤ (k : Int) := by omega
      have i1 : (k : Int) < 18 := by omega
      have i2 : (k : Int) ≤ 32 := by omega
      have HP := Lib.hid hpp
      have HG := Lib.hid hg
      have HO := Lib.hid ho
      have HB := Lib.hid hB
      clear hg ho hB hpp
      go_wp2_with fail
      refine (twice_p hF p hp _).mono ?_
      rintro e w1 ⟨rfl, b1⟩
      have hgl : g < wr.heap.size := by omega
      have hol1 : g + 1 < wr.heap.size := by omega
      have G1 := Lib.hid (HG.out.below b1 hgl)
      have o1 := HO.out.below b1 hol1
      have fz := o1.frozen k
      have ck : w1.cell? ⟨g + 1, k, none⟩ = some (.int .u32 0) := by rw [o1.cell, mMid_at _ k hlt]
      have s1 := o1.set_ k (.int .u32 (((fun s => F (F s)) p : Nat) : Int))
      rw [← HP.out, mMid_set _ k] at s1
      rw [HP.out] at s1
      have S1 := Lib.hid s1
      have GS := Lib.hid (G1.out.far (p := ⟨g + 1, k, none⟩) (by simp) (.int .u32 (((fun s => F (F s)) p : Nat) : Int)))
      have BS := Lib.hid ((HB.out.trans (b1.mono (by omega))).setCell (p := ⟨g + 1, k, none⟩) (show g ≤ g + 1 by omega) (.int .u32 (((fun s => F (F s)) p : Nat) : Int)))
      clear o1 s1 b1 HG HO HB G1
      go_wp2_with fail
      go_roundw
      case rel => exact ⟨k + 1, by omega, by go_num, GS.out, S1.out, BS.out⟩
      case measure => simp [intOf]; omega
    · obtain rfl : k = 18 := by omega
      rw [mMid_all] at ho
      have hst := hg.run_store (P := Try.prog) (mArr (fun s => F (F s))) (by rw [iArr_size, mArr_size]) (mArr_one _)
      have hsz := mArr_size (fun s => F (F s))
      have h8 : (Try.prog.info? 78).map (·.size) = some (mArr (fun s => F (F s))).size := by rw [mArr_size]; exact sizeM
      have H8 := Lib.hid h8
      have hld := (hg.row (mArr (fun s => F (F s)))).run_load (P := Try.prog) Try.underlying78 rfl h8
      have HD := Lib.hid hld
      have hB2 := below_setRow hB (Nat.le_refl g) (mArr (fun s => F (F s)))
      clear h8 hld
      go_wp2_with (refine wpList_load_row rfl 78 (.tmp 3) rfl (g + 1) (by rfl) 78 (mArr (fun s => F (F s))) (0, 0) _ ho Try.underlying78 rfl H8.out ?_)
      refine bodyPost_ret (v := .agg (mArr (fun s => F (F s)))) (results_cell (a := ⟨g, 0, none⟩) Try.results47 (by rfl) HD.out) rfl ?_
      exact ⟨rfl, by rw [HGG.out]; exact hB2⟩
end Go.Proofs.Ytnelcbbjnpaodaa
