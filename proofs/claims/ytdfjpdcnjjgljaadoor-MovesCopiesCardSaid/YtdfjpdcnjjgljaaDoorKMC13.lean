/-
  Texts of these proofs, one behind the other: Mmu1, Mmu2, Mov1.
-/
import Derived.Test.YtdfjpdcnjjgljaaDoorKMC02
import Derived.Test.YtdfjpdcnjjgljaaDoorKMC09
import Derived.Test.YtdfjpdcnjjgljaaDoorKMC11
import Derived.Test.YtdfjpdcnjjgljaaDoorKMC12
import Derived.RangeFuncNested
import Derived.RangeFuncBound
import Derived.RangeFuncCalls
import Derived.RangeFuncLeaves
import Derived.RangeFuncFrom
import Derived.Shelf.Abstract
import Derived.Shelf.RegionOpen
import Derived.OwnWalkIn
import Derived.TacticsInMore
import Derived.LoopNIn
import Derived.LoopIn
import Derived.Lib.Hide
import Derived.Test.YtdfjpdcnjjgljaaDoorKMC04
import Derived.Deep.QuietTactic
import Derived.BigQuiet
namespace Go.Proofs.YtdfjpdcnjjgljaaDoor
open Go.RowKit Go.Shelf
set_option linter.unusedVariables false
set_option linter.unusedSimpArgs false
set_option maxRecDepth 100000
attribute [local go_sem] Oper.semAt_some
/-- The pages of a mask up to one, in their order. -/
def wthL (f : Nat → Bool) : Nat → List (Fin 8)
  | 0 => []
  | k + 1 => if h : k < 8 then (if f k then wthL f k ++ [⟨k, h⟩] else wthL f k) else wthL f k
theorem wthL_pre (f : Nat → Bool) (k m : Nat) (h : k ≤ m) : wthL f k <+: wthL f m := by
  induction m with
  | zero =>
    obtain rfl : k = 0 := by omega
    exact List.prefix_rfl
  | succ m ih =>
    by_cases e : k = m + 1
    · subst e; exact List.prefix_rfl
    · have := ih (by omega)
      simp only [wthL]
      split
      · split
        · exact this.trans (List.prefix_append _ _)
        · exact this
      · exact this
theorem wthL_len (f : Nat → Bool) (k : Nat) : (wthL f k).length ≤ k := by
  induction k with
  | zero => simp [wthL]
  | succ k ih =>
    simp only [wthL]
    split
    · split
      · simp; omega
      · omega
    · omega
theorem wthL_mem (f : Nat → Bool) (k : Nat) (hk : k ≤ 8) (x : Fin 8) : x ∈ wthL f k ↔ x.val < k ∧ f x.val = true := by
  induction k with
  | zero => simp [wthL]
  | succ k ih =>
    have ih := ih (by omega)
    simp only [wthL, dif_pos (show k < 8 by omega)]
    by_cases hf : f k = true
    · rw [if_pos hf, List.mem_append, ih]
      simp only [List.mem_singleton]
      constructor
      · rintro (⟨h1, h2⟩ | rfl)
        · exact ⟨by omega, h2⟩
        · exact ⟨by simp, hf⟩
      · rintro ⟨h1, h2⟩
        by_cases e : x.val = k
        · exact .inr (Fin.ext e)
        · exact .inl ⟨by omega, h2⟩
    · rw [if_neg hf, ih]
      constructor
      · rintro ⟨h1, h2⟩; exact ⟨by omega, h2⟩
      · rintro ⟨h1, h2⟩
        refine ⟨?_, h2⟩
        by_cases e : x.val = k
        · rw [e] at h2; exact absurd h2 hf
        · omega
/-- The cell that the iterator reads is kept. -/
def KpM (bn : Nat) (m : Int) (A B : World) : Prop := Blk A bn 5 #[.int .u8 m] → Blk B bn 5 #[.int .u8 m]
theorem blk_put {W : World} {g l : Nat} {t : TypeId} {cs : Array Value} (h : Blk W g t cs) {o o' : Obj} (ho : W.heap[l]? = some o) (hc : o.isCells = false) : Blk (W.putObj l o') g t cs :=
  h.grown (grownBy_putObj' W l o') fun e => by
    cases e
    have h' : W.heap[g]? = some (Obj.cells cs t (0, 0)) := h
    rw [h'] at ho
    cases ho
    exact absurd hc (by simp [Obj.isCells])
theorem mblk_own {W W' : World} {g : Nat} {t : TypeId} {cs : Array Value} {row : Option Nat} (h : Blk W g t cs) (hg : W.grownBy W' row) (hr : ∀ r, row = some r → ∃ o : Obj, W.heap[r]? = some o ∧ o.isCells = false) : Blk W' g t cs :=
  h.grown hg fun e => by
    obtain ⟨o, ho, hc⟩ := hr g e.symm
    have h' : W.heap[g]? = some (Obj.cells cs t (0, 0)) := h
    rw [h'] at ho
    cases ho
    exact absurd hc (by simp [Obj.isCells])
end Go.Proofs.YtdfjpdcnjjgljaaDoor
namespace Go.Proofs.YtdfjpdcnjjgljaaDoor
open Go.RowKit Go.Shelf
set_option linter.unusedVariables false
set_option linter.unusedSimpArgs false
set_option maxRecDepth 100000
attribute [local go_sem] Oper.semAt_some
/-- Pages of which those of a mask are in a bank. -/
def mvd (z : Nat → Int) (m b : Int) (i : Nat) : Int := if bitB m i = true then b else z i
def p8 (z : Nat → Int) : Array Value := #[.int .u8 (z 0), .int .u8 (z 1), .int .u8 (z 2), .int .u8 (z 3), .int .u8 (z 4), .int .u8 (z 5), .int .u8 (z 6), .int .u8 (z 7)]
theorem p8_i (z : Nat → Int) : p8 z = iArr .u8 8 z := rfl
/-- Those that have been moved so far. -/
def mvL (z : Nat → Int) (b : Int) (l : List (Fin 8)) (i : Nat) : Int := if l.any (fun x => x.val == i) then b else z i
theorem mvL_snoc (z : Nat → Int) (b : Int) (l : List (Fin 8)) (x : Fin 8) : (p8 (mvL z b l)).setIfInBounds x.val (.int .u8 b) = p8 (mvL z b (l ++ [x])) := by
  rw [p8_i, p8_i, iArr_set]
  exact iArr_congr fun i _ => by
    unfold mvL
    simp only [List.any_append, List.any_cons, List.any_nil, Bool.or_false]
    by_cases e : i = x.val
    · subst e; simp
    · have : (x.val == i) = false := by simp; omega
      rw [if_neg e, this, Bool.or_false]
theorem mvL_all (z : Nat → Int) (m b : Int) : p8 (mvL z b (wthL (fun i => bitB m i) 8)) = p8 (mvd z m b) := by
  rw [p8_i, p8_i]
  exact iArr_congr fun i hi => by
    unfold mvL mvd
    have : (wthL (fun i => bitB m i) 8).any (fun x => x.val == i) = bitB m i := by
      apply Bool.eq_iff_iff.2
      rw [List.any_eq_true]
      constructor
      · rintro ⟨x, hx, e⟩
        have := (wthL_mem _ 8 (by omega) x).1 hx
        have e : x.val = i := by simpa using e
        rw [← e]; exact this.2
      · intro h
        exact ⟨⟨i, hi⟩, (wthL_mem _ 8 (by omega) _).2 ⟨hi, h⟩, by simp⟩
    rw [this]
theorem info8 : (Tryd.prog.info? 23).map (·.size) = some 8 := by kernel_rfl
end Go.Proofs.YtdfjpdcnjjgljaaDoor
namespace Go.Proofs.YtdfjpdcnjjgljaaDoor
open Go.RowKit
set_option linter.unusedVariables false
set_option linter.unusedSimpArgs false
set_option maxRecDepth 100000
/-- Where the byte with a number comes from, and goes to. -/
def mvF (k : Nat) (f n : Int) : Int := if k = 0 ∨ k = 2 ∨ k = 3 then (f + n) % 65536 else if k = 1 then (f - n) % 65536 else (f + n % 2) % 65536
def mvT (k : Nat) (t n : Int) : Int := if k = 0 ∨ k = 4 then (t + n) % 65536 else if k = 1 then (t - n) % 65536 else if k = 2 then t else (t + n % 2) % 65536
def atV (k : Nat) (f t n : Int) : Array Value := if k < 5 ∧ 0 ≤ n then #[.agg #[.int .u16 (mvF k f n), .int .u16 (mvT k t n)], .bool true] else #[.agg #[.int .u16 0, .int .u16 0], .bool false]
def cntP (l : Int) : Int := if l = 0 then 65536 else l
theorem cntP_bd (l : Int) (l0 : 0 ≤ l) (l1 : l ≤ 65535) : 1 ≤ cntP l ∧ cntP l ≤ 65536 := by unfold cntP; split <;> omega
theorem mvF_bd (k : Nat) (f n : Int) : 0 ≤ mvF k f n ∧ mvF k f n ≤ 65535 := by unfold mvF; split; omega; split <;> omega
theorem mvT_bd (k : Nat) (t n : Int) (t0 : 0 ≤ t) (t1 : t ≤ 65535) : 0 ≤ mvT k t n ∧ mvT k t n ≤ 65535 := by unfold mvT; split; omega; split; omega; split <;> omega
theorem v16_mod (n : Int) : IntKind.u16.wrap n = n % 65536 := by simp [IntKind.wrap, IntKind.signed, IntKind.bits]
theorem kinds_of (k : Nat) : k = 0 ∨ k = 1 ∨ k = 2 ∨ k = 3 ∨ k = 4 ∨ 5 ≤ k := by omega
set_option maxHeartbeats 4000000 in
theorem vcount_any (l : Int) (l0 : 0 ≤ l) (l1 : l ≤ 65535) (w : World) : Calls Tryd.prog 33 #[.int .u16 l] w fun e w' => e = .returned (.int .i64 (cntP l)) ∧ w = w' := by
  by_cases h : l = 0
  · subst h
    go_enter Tryd.func33, Tryd.ntmps33
    go_wp2
    go_ret
    exact ⟨rfl, rfl⟩
  · have e : cntP l = l := if_neg h
    have hb : (l == 0) = false := by simp [h]
    rw [e]
    go_enter Tryd.func33, Tryd.ntmps33
    go_wp2
    go_ret
    exact ⟨by go_num, rfl⟩
set_option maxHeartbeats 4000000 in
theorem rvcount_any (l : Int) (l0 : 0 ≤ l) (l1 : l ≤ 65535) (w : World) : Calls Tryd.prog 32 #[.int .u16 l] w fun e w' => e = .returned (.int .i64 (cntP l)) ∧ w = w' := by
  by_cases h : l = 0
  · subst h
    go_enter Tryd.func32, Tryd.ntmps32
    go_wp2
    go_ret
    exact ⟨rfl, rfl⟩
  · have e : cntP l = l := if_neg h
    have hb : (l == 0) = false := by simp [h]
    rw [e]
    go_enter Tryd.func32, Tryd.ntmps32
    go_wp2
    go_ret
    exact ⟨by go_num, rfl⟩
set_option maxHeartbeats 8000000 in
theorem vat_any (k : Nat) (f t n : Int) (f0 : 0 ≤ f) (f1 : f ≤ 65535) (t0 : 0 ≤ t) (t1 : t ≤ 65535) (n0 : -9223372036854775808 ≤ n) (n1 : n ≤ 9223372036854775807) (w : World) : Calls Tryd.prog 28 #[.int .u8 (k : Int), .int .u16 f, .int .u16 t, .int .i64 n] w fun e w' => e = .returned (.tuple (atV k f t n)) ∧ Below w.heap.size w w' := by
  by_cases hn : n < 0
  · have e : atV k f t n = #[.agg #[.int .u16 0, .int .u16 0], .bool false] := if_neg (by omega)
    rw [e]
    go_enter Tryd.func28, Tryd.ntmps28
    go_wp2
    ((try simp only [Exit.inBlock, Exit.then]); refine bodyPost_ret (results_cell_tmp (a := ⟨w.heap.size, 0, none⟩) Tryd.results28 (by rfl) ((Blk.new w _ _).run_load (P := Tryd.prog) Tryd.underlying48 rfl (by kernel_rfl)) rfl) rfl ?_)
    exact ⟨rfl, (Below.refl _ w).alloc (Nat.le_refl _) _⟩
  · have m0 : 0 ≤ n := by omega
    have e2 : n.tmod 2 = n % 2 := Int.tmod_eq_emod_of_nonneg m0
    have e3 : IntKind.u16.wrap (n % 2) = n % 2 := by rw [v16_mod]; omega
    have e4 : wrap64 (n % 2) = n % 2 := IntWalk.wrap64_in _ (by omega)
    have e5 : IntKind.u16.wrap (f + IntKind.u16.wrap n) = (f + n) % 65536 := by rw [v16_mod, v16_mod]; omega
    have e6 : IntKind.u16.wrap (t + IntKind.u16.wrap n) = (t + n) % 65536 := by rw [v16_mod, v16_mod]; omega
    have e7 : IntKind.u16.wrap (f - IntKind.u16.wrap n) = (f - n) % 65536 := by rw [v16_mod, v16_mod]; omega
    have e8 : IntKind.u16.wrap (t - IntKind.u16.wrap n) = (t - n) % 65536 := by rw [v16_mod, v16_mod]; omega
    have e9 : IntKind.u16.wrap (f + n % 2) = (f + n % 2) % 65536 := v16_mod _
    have ea : IntKind.u16.wrap (t + n % 2) = (t + n % 2) % 65536 := v16_mod _
    have HN := Lib.hid n0
    have HM := Lib.hid n1
    have He2 := Lib.hid e2
    have He3 := Lib.hid e3
    have He4 := Lib.hid e4
    have He5 := Lib.hid e5
    have He6 := Lib.hid e6
    have He7 := Lib.hid e7
    have He8 := Lib.hid e8
    have He9 := Lib.hid e9
    have Hea := Lib.hid ea
    clear e2 e3 e4 e5 e6 e7 e8 e9 ea n0 n1
    rcases kinds_of k with rfl | rfl | rfl | rfl | rfl | h
    case inr.inr.inr.inr.inr =>
      have e : atV k f t n = #[.agg #[.int .u16 0, .int .u16 0], .bool false] := if_neg (by omega)
      have h0 : (5 : Int) ≤ k := by omega
      rw [e]
      go_enter Tryd.func28, Tryd.ntmps28
      go_wp2
      ((try simp only [Exit.inBlock, Exit.then]); refine bodyPost_ret (results_cell_tmp (a := ⟨w.heap.size, 0, none⟩) Tryd.results28 (by rfl) ((Blk.new w _ _).run_load (P := Tryd.prog) Tryd.underlying48 rfl (by kernel_rfl)) rfl) rfl ?_)
      exact ⟨rfl, (Below.refl _ w).alloc (Nat.le_refl _) _⟩
    all_goals unfold atV
    all_goals rw [if_pos ⟨by omega, m0⟩]
    all_goals go_enter Tryd.func28, Tryd.ntmps28
    all_goals go_wp2
    all_goals ((try simp only [Exit.inBlock, Exit.then]); refine bodyPost_ret (results_cell_tmp (a := ⟨w.heap.size, 0, none⟩) Tryd.results28 (by rfl) ((Blk.new w _ _).run_load (P := Tryd.prog) Tryd.underlying48 rfl (by kernel_rfl)) rfl) rfl ?_)
    all_goals exact ⟨by first | rfl | (simp only [He2.out, He3.out, He4.out, He5.out, He6.out, He7.out, He8.out, He9.out, Hea.out]; rfl), (Below.refl _ w).alloc (Nat.le_refl _) _⟩
set_option maxHeartbeats 8000000 in
theorem rvat_any (k : Nat) (hk : k < 5) (f t n : Int) (f0 : 0 ≤ f) (f1 : f ≤ 65535) (t0 : 0 ≤ t) (t1 : t ≤ 65535) (n0 : 0 ≤ n) (n1 : n ≤ 9223372036854775807) (w : World) : Calls Tryd.prog 31 #[.int .u8 (k : Int), .int .u16 f, .int .u16 t, .int .i64 n] w fun e w' => e = .returned (.tuple #[.int .u16 (mvF k f n), .int .u16 (mvT k t n)]) ∧ w = w' := by
  have m1 : n.tmod 65536 = n % 65536 := Int.tmod_eq_emod_of_nonneg n0
  have m2 : n.tmod 2 = n % 2 := Int.tmod_eq_emod_of_nonneg n0
  have hk : k = 0 ∨ k = 1 ∨ k = 2 ∨ k = 3 ∨ k = 4 := by omega
  rcases hk with rfl | rfl | rfl | rfl | rfl
  all_goals go_enter Tryd.func31, Tryd.ntmps31
  all_goals go_wp2
  all_goals go_ret2
  all_goals exact ⟨by first | (unfold mvF mvT; simp; done) | (unfold mvF mvT; simp; go_num), rfl⟩
set_option maxHeartbeats 4000000 in
theorem vends_any (k : Nat) (f t l : Int) (f0 : 0 ≤ f) (f1 : f ≤ 65535) (t0 : 0 ≤ t) (t1 : t ≤ 65535) (l0 : 0 ≤ l) (l1 : l ≤ 65535) (w : World) : Calls Tryd.prog 30 #[.int .u8 (k : Int), .int .u16 f, .int .u16 t, .int .u16 l] w fun e w' => e = .returned (.tuple (if k < 5 then #[.int .u16 (mvF k f (cntP l)), .int .u16 (mvT k t (cntP l)), .bool true] else #[.int .u16 0, .int .u16 0, .bool false])) ∧ Below w.heap.size w w' := by
  obtain ⟨c0, c1⟩ := cntP_bd l l0 l1
  have hA := fun W => vat_any k f t (cntP l) f0 f1 t0 t1 (by omega) (by omega) W
  have hC := fun W => vcount_any l l0 l1 W
  unfold atV at hA
  by_cases h : k < 5
  · rw [if_pos ⟨h, by omega⟩] at hA
    rw [if_pos h]
    generalize cntP l = c at *
    generalize mvF k f c = x at *
    generalize mvT k t c = y at *
    go_enter Tryd.func30, Tryd.ntmps30
    go_wp2_with (go_at_call 33; refine (hC _).mono ?_; rintro e w' ⟨rfl, rfl⟩)
    refine (hA _).mono ?_
    rintro e w1 ⟨rfl, hb⟩
    have HB := Lib.hid hb
    clear hb
    go_wp2_with fail
    go_quiet (fail)
    go_wp2
    go_ret3
    exact ⟨rfl, below_drewN (HB.out.alloc HB.out.size _) _⟩
  · rw [if_neg (by omega)] at hA
    rw [if_neg h]
    generalize cntP l = c at *
    go_enter Tryd.func30, Tryd.ntmps30
    go_wp2_with (go_at_call 33; refine (hC _).mono ?_; rintro e w' ⟨rfl, rfl⟩)
    refine (hA _).mono ?_
    rintro e w1 ⟨rfl, hb⟩
    have HB := Lib.hid hb
    clear hb
    go_wp2_with fail
    go_quiet (fail)
    go_wp2
    go_ret3
    exact ⟨rfl, below_drewN (HB.out.alloc HB.out.size _) _⟩
end Go.Proofs.YtdfjpdcnjjgljaaDoor
