/-
  Texts of these proofs, one behind the other: Tm4.
-/
import Derived.Test.YtmbbcfdeielopaaDoorRRRRKTK14
import Derived.Test.YtmbbcfdeielopaaDoorRRRRKTK18
import Derived.Test.YtmbbcfdeielopaaDoorRRRRKTK19
import Derived.Test.YtmbbcfdeielopaaDoorRRRRKTK20
import Derived.Deep.RegionHeld3
namespace Go.Proofs.YtmbbcfdeielopaaDoorRRRR
open Go.RowKit
set_option linter.unusedVariables false
set_option linter.unusedSimpArgs false
set_option maxRecDepth 100000
theorem tmOs_rep : ∀ m : Fin 20, Lib.repeatL [79] (bhP (m.val : Int)).toNat = tmOs m.val ∧ mbP m.val = ((bhP (m.val : Int)).toNat : Int) ∧ (bhP (m.val : Int)).toNat ≤ 6 ∧ (tmOs m.val).length ≤ 6 ∧ (tmFound m.val).length ≤ 4 := by decide
theorem if_len {p : Prop} [Decidable p] {a b : List UInt8} {n : Nat} (ha : a.length ≤ n) (hb : b.length ≤ n) : (if p then a else b).length ≤ n := by split <;> assumption
theorem tmDone_len (t : List UInt8) : (tmDone t).length ≤ 9 := by unfold tmDone; (repeat' split) <;> decide
theorem tmImp_len (t : List UInt8) : (tmImp t).length ≤ 9 := by unfold tmImp; (repeat' split) <;> decide
theorem tmImm_len (t : List UInt8) : (tmImm t).length ≤ 9 := by unfold tmImm; (repeat' split) <;> decide
theorem tmLong_len (t : List UInt8) (T D : Bool) : (tmLong t T D).length ≤ 9 := by
  unfold tmLong
  cases T <;> cases D <;> (repeat' split) <;> (first | decide | simp)
theorem tmBr_len (t : List UInt8) (m : Nat) (K : Bool) : (tmBr t m K).length ≤ 9 := by
  unfold tmBr
  rw [List.length_append]
  have h1 : (if m = 12 then [68, 76, 68] else ([] : List UInt8)).length ≤ 3 := if_len (by decide) (by decide)
  have h2 : (if t == [66, 83, 82] then [68, 80, 80, 68, 68, 68] else if K || t == [66, 82, 65] then [68, 68] else ([] : List UInt8)).length ≤ 6 := if_len (by decide) (if_len (by decide) (by decide))
  omega
theorem mkS_sz (l : List UInt8) {n : Nat} (h : l.length ≤ n) : (mkS l).size ≤ n := by rw [mkS_size]; exact h
theorem cat_eq (ls : List (List UInt8)) (r : List UInt8) (h : ls.flatten = r) : catB (ls.map mkS) = mkS r := by
  subst h
  unfold catB
  congr 2
  induction ls with
  | nil => rfl
  | cons a l ih => simp only [List.map_cons, ih]; rfl
/-- The boxes of what came in. -/
theorem row_cells {w : World} {g h : Nat} {S : ByteArray} {m z y : Int} {T D K : Bool} {n : Int} (h1 : Blk w g 51 (opA S m z y)) (h2 : Blk w h 23 (fcA T D K n)) :
    w.cell? ⟨g, 0, none⟩ = some (.string S) ∧ w.cell? ⟨g, 1, none⟩ = some (.int .u8 m) ∧ Blk w h 23 (fcA T D K n) := ⟨h1.cell 0, h1.cell 1, h2⟩
set_option maxHeartbeats 8000000 in
theorem trow_block (t : List UInt8) (m : Nat) (hm : m < 20) (h19 : m = 19) (h3 : 3 ≤ t.length) (z y : Int) (T D K : Bool) (n : Int) (w : World) :
    Calls Tryd.prog 20 #[.agg (opA (mkS t) (m : Int) z y), .agg (fcA T D K n)] w fun e w' => e = .returned (.tuple #[.string (mkS ([70] ++ [80, 80, 80] ++ tmOs m ++ [68])), .string (mkS [68, 85, 85, 85, 68, 68])]) ∧ Below w.heap.size w w' := by
  obtain ⟨ho1, ho2, ho3, ho4, ho5⟩ := tmOs_rep ⟨m, hm⟩
  dsimp only at ho1 ho2 ho3 ho4 ho5
  have hbh := fun W => mbehind_any m W
  rw [ho2] at hbh
  obtain ⟨q, hq⟩ : ∃ q, (bhP (m : Int)).toNat = q := ⟨_, rfl⟩
  rw [hq] at ho1 ho3 hbh
  have hrp := fun W => sh_strings_Repeat ⟨#[79]⟩ q W (by omega) (by show 1 * q ≤ _; omega)
  rw [show (⟨(Lib.repeatL (⟨#[79]⟩ : ByteArray).data.toList q).toArray⟩ : ByteArray) = mkS (tmOs m) from congrArg mkS ho1] at hrp
  obtain ⟨X, hX⟩ : ∃ X, mkS (tmOs m) = X := ⟨_, rfl⟩
  have hXz : X.size ≤ 6 := by rw [← hX]; exact mkS_sz _ ho4
  rw [hX] at hrp
  obtain ⟨S, hS⟩ : ∃ S, mkS t = S := ⟨_, rfl⟩
  have hSt : S.toList = t := by rw [← hS, mkS_toList]
  have hSz : 3 ≤ S.size := by rw [← hS, mkS_size]; exact h3
  rw [hS]
  have c1z : (⟨#[70]⟩ : ByteArray).size = 1 := rfl
  have c3z : (⟨#[80, 80, 80]⟩ : ByteArray).size = 3 := rfl
  have c4z : (⟨#[68]⟩ : ByteArray).size = 1 := rfl

  have e19 : ((m : Int) == 19) = true := by simp; omega
  have HX := Lib.hid hX
  have HSt := Lib.hid hSt
  have HE : Hid (catB [⟨#[70]⟩, ⟨#[80, 80, 80]⟩, X, ⟨#[68]⟩] = mkS ([70] ++ [80, 80, 80] ++ tmOs m ++ [68])) := Lib.hid (by rw [← HX.out]; exact cat_eq [[70], [80, 80, 80], tmOs m, [68]] _ (by simp))
  clear h19
  clear ho1 ho2 ho4 ho5 hq hX hS hSt h3
  obtain ⟨w1, hw1⟩ : ∃ w1, (w.alloc (.cells (opA S (m : Int) z y) 51)).alloc (.cells (fcA T D K n) 23) = w1 := ⟨_, rfl⟩
  have K0 : Hid (Blk w1 w.heap.size 51 (opA S (m : Int) z y)) := Lib.hid (by rw [← hw1]; exact (Blk.new w _ _).alloc _)
  have K1 : Hid (Blk w1 (w.heap.size + 1) 23 (fcA T D K n)) := Lib.hid (by rw [← hw1]; exact Blk.new_ (by simp))
  have HB : Hid (Below w.heap.size w w1) := Lib.hid (by rw [← hw1]; exact ((Below.refl _ w).alloc (Nat.le_refl _) _).alloc (by simp) _)
  have HW1 := Lib.hid hw1
  clear hw1
  obtain ⟨s0, s1, s2⟩ := row_cells K0.out K1.out
  go_enter Tryd.func20, Tryd.ntmps20
  go_upto_region 1 with fail
  rw [HW1.out]
  go_wp2_with (go_at_call 38; refine (hbh _).mono ?_; rintro e w' ⟨rfl, rfl⟩)
  refine (hrp _).mono ?_
  rintro e w2 ⟨rfl, hb2⟩
  have K02 := Lib.hid (K0.out.below hb2 K0.out.lt)
  have K12 := Lib.hid (K1.out.below hb2 K1.out.lt)
  have HB2 := Lib.hid (HB.out.trans (hb2.mono HB.out.size))
  clear s0 s1 s2 hb2 hrp hbh
  obtain ⟨s0, s1, s2⟩ := row_cells K02.out K12.out
  go_wp2_with (go_at_call 39; refine (tjoined_any _ 4 [⟨#[70]⟩, ⟨#[80, 80, 80]⟩, X, ⟨#[68]⟩] _ (Blk.new_ (by simp)) (by simp) (by simp) (by simp only [List.map_cons, List.map_nil, List.sum_cons, List.sum_nil, c1z, c3z, c4z]; omega)).mono ?_; rintro e w9 ⟨rfl, hb9⟩)
  go_ret2
  refine ⟨?_, HB2.out.trans ((((Below.refl _ _).alloc (Nat.le_refl _) _).trans (hb9.mono (by simp))).mono HB2.out.size)⟩
  rw [HE.out]; rfl
set_option maxHeartbeats 8000000 in
theorem trow_imp (t : List UInt8) (m : Nat) (hm : m < 20) (h0 : m = 0) (h3 : 3 ≤ t.length) (z y : Int) (T D K : Bool) (n : Int) (w : World) :
    Calls Tryd.prog 20 #[.agg (opA (mkS t) (m : Int) z y), .agg (fcA T D K n)] w fun e w' => e = .returned (.tuple #[.string (mkS ([70] ++ tmImp t)), .string (mkS [])]) ∧ Below w.heap.size w w' := by
  obtain ⟨ho1, ho2, ho3, ho4, ho5⟩ := tmOs_rep ⟨m, hm⟩
  dsimp only at ho1 ho2 ho3 ho4 ho5
  have hbh := fun W => mbehind_any m W
  rw [ho2] at hbh
  obtain ⟨q, hq⟩ : ∃ q, (bhP (m : Int)).toNat = q := ⟨_, rfl⟩
  rw [hq] at ho1 ho3 hbh
  have hrp := fun W => sh_strings_Repeat ⟨#[79]⟩ q W (by omega) (by show 1 * q ≤ _; omega)
  rw [show (⟨(Lib.repeatL (⟨#[79]⟩ : ByteArray).data.toList q).toArray⟩ : ByteArray) = mkS (tmOs m) from congrArg mkS ho1] at hrp
  obtain ⟨X, hX⟩ : ∃ X, mkS (tmOs m) = X := ⟨_, rfl⟩
  have hXz : X.size ≤ 6 := by rw [← hX]; exact mkS_sz _ ho4
  rw [hX] at hrp
  obtain ⟨S, hS⟩ : ∃ S, mkS t = S := ⟨_, rfl⟩
  have hSt : S.toList = t := by rw [← hS, mkS_toList]
  have hSz : 3 ≤ S.size := by rw [← hS, mkS_size]; exact h3
  rw [hS]
  have c1z : (⟨#[70]⟩ : ByteArray).size = 1 := rfl
  have c3z : (⟨#[80, 80, 80]⟩ : ByteArray).size = 3 := rfl
  have c4z : (⟨#[68]⟩ : ByteArray).size = 1 := rfl
  obtain ⟨Y, hY⟩ : ∃ Y, mkS (tmImp S.toList) = Y := ⟨_, rfl⟩
  have hYz : Y.size ≤ 9 := by rw [← hY]; exact mkS_sz _ (tmImp_len _)
  have him := fun W => timplied_any S W
  rw [hY] at him
  have HY := Lib.hid hY
  clear hY

  have e19 : ((m : Int) == 19) = false := by simp; omega
  have e0 : ((m : Int) == 0) = true := by simp; omega
  have HX := Lib.hid hX
  have HSt := Lib.hid hSt
  have HE : Hid (catB [⟨#[70]⟩, Y] = mkS ([70] ++ tmImp t)) := Lib.hid (by rw [← HY.out, HSt.out]; exact cat_eq [[70], tmImp t] _ (by simp))
  clear h0
  clear ho1 ho2 ho4 ho5 hq hX hS hSt h3
  obtain ⟨w1, hw1⟩ : ∃ w1, (w.alloc (.cells (opA S (m : Int) z y) 51)).alloc (.cells (fcA T D K n) 23) = w1 := ⟨_, rfl⟩
  have K0 : Hid (Blk w1 w.heap.size 51 (opA S (m : Int) z y)) := Lib.hid (by rw [← hw1]; exact (Blk.new w _ _).alloc _)
  have K1 : Hid (Blk w1 (w.heap.size + 1) 23 (fcA T D K n)) := Lib.hid (by rw [← hw1]; exact Blk.new_ (by simp))
  have HB : Hid (Below w.heap.size w w1) := Lib.hid (by rw [← hw1]; exact ((Below.refl _ w).alloc (Nat.le_refl _) _).alloc (by simp) _)
  have HW1 := Lib.hid hw1
  clear hw1
  obtain ⟨s0, s1, s2⟩ := row_cells K0.out K1.out
  go_enter Tryd.func20, Tryd.ntmps20
  go_upto_region 1 with fail
  rw [HW1.out]
  go_wp2_with (go_at_call 38; refine (hbh _).mono ?_; rintro e w' ⟨rfl, rfl⟩)
  refine (hrp _).mono ?_
  rintro e w2 ⟨rfl, hb2⟩
  have K02 := Lib.hid (K0.out.below hb2 K0.out.lt)
  have K12 := Lib.hid (K1.out.below hb2 K1.out.lt)
  have HB2 := Lib.hid (HB.out.trans (hb2.mono HB.out.size))
  clear s0 s1 s2 hb2 hrp hbh
  obtain ⟨s0, s1, s2⟩ := row_cells K02.out K12.out
  go_wp2_with fail
  refine (him _).mono ?_
  rintro e w' ⟨rfl, rfl⟩
  have HB3 := HB2
  go_wp2_with (go_at_call 39; refine (tjoined_any _ 2 [⟨#[70]⟩, Y] _ (Blk.new_ (by simp)) (by simp) (by simp) (by simp only [List.map_cons, List.map_nil, List.sum_cons, List.sum_nil, c1z, c3z, c4z]; omega)).mono ?_; rintro e w9 ⟨rfl, hb9⟩)
  go_ret2
  refine ⟨?_, HB3.out.trans ((((Below.refl _ _).alloc (Nat.le_refl _) _).trans (hb9.mono (by simp))).mono HB3.out.size)⟩
  rw [HE.out]; rfl
set_option maxHeartbeats 8000000 in
theorem trow_br (t : List UInt8) (m : Nat) (hm : m < 20) (hr : m = 11 ∨ m = 12) (h3 : 3 ≤ t.length) (z y : Int) (T D K : Bool) (n : Int) (w : World) :
    Calls Tryd.prog 20 #[.agg (opA (mkS t) (m : Int) z y), .agg (fcA T D K n)] w fun e w' => e = .returned (.tuple #[.string (mkS ([70] ++ tmOs m ++ tmBr t m K)), .string (mkS [])]) ∧ Below w.heap.size w w' := by
  obtain ⟨ho1, ho2, ho3, ho4, ho5⟩ := tmOs_rep ⟨m, hm⟩
  dsimp only at ho1 ho2 ho3 ho4 ho5
  have hbh := fun W => mbehind_any m W
  rw [ho2] at hbh
  obtain ⟨q, hq⟩ : ∃ q, (bhP (m : Int)).toNat = q := ⟨_, rfl⟩
  rw [hq] at ho1 ho3 hbh
  have hrp := fun W => sh_strings_Repeat ⟨#[79]⟩ q W (by omega) (by show 1 * q ≤ _; omega)
  rw [show (⟨(Lib.repeatL (⟨#[79]⟩ : ByteArray).data.toList q).toArray⟩ : ByteArray) = mkS (tmOs m) from congrArg mkS ho1] at hrp
  obtain ⟨X, hX⟩ : ∃ X, mkS (tmOs m) = X := ⟨_, rfl⟩
  have hXz : X.size ≤ 6 := by rw [← hX]; exact mkS_sz _ ho4
  rw [hX] at hrp
  obtain ⟨S, hS⟩ : ∃ S, mkS t = S := ⟨_, rfl⟩
  have hSt : S.toList = t := by rw [← hS, mkS_toList]
  have hSz : 3 ≤ S.size := by rw [← hS, mkS_size]; exact h3
  rw [hS]
  have c1z : (⟨#[70]⟩ : ByteArray).size = 1 := rfl
  have c3z : (⟨#[80, 80, 80]⟩ : ByteArray).size = 3 := rfl
  have c4z : (⟨#[68]⟩ : ByteArray).size = 1 := rfl
  obtain ⟨Y, hY⟩ : ∃ Y, mkS (tmBr S.toList m K) = Y := ⟨_, rfl⟩
  have hYz : Y.size ≤ 9 := by rw [← hY]; exact mkS_sz _ (tmBr_len _ _ _)
  have hbr := fun W => tbranch_any S m z y T D K n W
  rw [hY] at hbr
  have HY := Lib.hid hY
  clear hY

  have e19 : ((m : Int) == 19) = false := by simp; omega
  have e0 : ((m : Int) == 0) = false := by simp; omega
  have e1 : ((m : Int) == 1) = false := by simp; omega
  have HX := Lib.hid hX
  have HSt := Lib.hid hSt
  have HE : Hid (catB [⟨#[70]⟩, X, Y] = mkS ([70] ++ tmOs m ++ tmBr t m K)) := Lib.hid (by rw [← HX.out, ← HY.out, HSt.out]; exact cat_eq [[70], tmOs m, tmBr t m K] _ (by simp))
  clear ho1 ho2 ho4 ho5 hq hX hS hSt h3
  obtain ⟨w1, hw1⟩ : ∃ w1, (w.alloc (.cells (opA S (m : Int) z y) 51)).alloc (.cells (fcA T D K n) 23) = w1 := ⟨_, rfl⟩
  have K0 : Hid (Blk w1 w.heap.size 51 (opA S (m : Int) z y)) := Lib.hid (by rw [← hw1]; exact (Blk.new w _ _).alloc _)
  have K1 : Hid (Blk w1 (w.heap.size + 1) 23 (fcA T D K n)) := Lib.hid (by rw [← hw1]; exact Blk.new_ (by simp))
  have HB : Hid (Below w.heap.size w w1) := Lib.hid (by rw [← hw1]; exact ((Below.refl _ w).alloc (Nat.le_refl _) _).alloc (by simp) _)
  have HW1 := Lib.hid hw1
  clear hw1
  obtain ⟨s0, s1, s2⟩ := row_cells K0.out K1.out
  go_enter Tryd.func20, Tryd.ntmps20
  go_upto_region 1 with fail
  rw [HW1.out]
  go_wp2_with (go_at_call 38; refine (hbh _).mono ?_; rintro e w' ⟨rfl, rfl⟩)
  refine (hrp _).mono ?_
  rintro e w2 ⟨rfl, hb2⟩
  have K02 := Lib.hid (K0.out.below hb2 K0.out.lt)
  have K12 := Lib.hid (K1.out.below hb2 K1.out.lt)
  have HB2 := Lib.hid (HB.out.trans (hb2.mono HB.out.size))
  clear s0 s1 s2 hb2 hrp hbh
  obtain ⟨s0, s1, s2⟩ := row_cells K02.out K12.out
  rcases hr with rfl | rfl
  all_goals
    have k02 := K02.out
    have k12 := K12.out
    go_wp2_with (first
      | (refine wpList_load_row rfl 51 (.tmp 2) rfl w.heap.size (by rfl) 51 (opA S _ z y) (0, 0) _ k02 Tryd.underlying51 rfl (by kernel_rfl) ?_)
      | (refine wpList_load_row rfl 23 (.tmp 3) rfl (w.heap.size + 1) (by rfl) 23 (fcA T D K n) (0, 0) _ k12 Tryd.underlying23 rfl (by kernel_rfl) ?_))
    refine (hbr _).mono ?_
    rintro e w3 ⟨rfl, hb3⟩
    have HB3 := Lib.hid (HB2.out.trans (hb3.mono HB2.out.size))
    clear hb3 hbr k02 k12 s0 s1 s2
    go_wp2_with (go_at_call 39; refine (tjoined_any _ 3 [⟨#[70]⟩, X, Y] _ (Blk.new_ (by simp)) (by simp) (by simp) (by simp only [List.map_cons, List.map_nil, List.sum_cons, List.sum_nil, c1z, c3z, c4z]; omega)).mono ?_; rintro e w9 ⟨rfl, hb9⟩)
    go_ret2
    refine ⟨?_, HB3.out.trans ((((Below.refl _ _).alloc (Nat.le_refl _) _).trans (hb9.mono (by simp))).mono HB3.out.size)⟩
    rw [HE.out]; rfl
set_option maxHeartbeats 8000000 in
theorem trow_imm (t : List UInt8) (m : Nat) (hm : m < 20) (h1 : m = 1) (h3 : 3 ≤ t.length) (z y : Int) (T D K : Bool) (n : Int) (w : World) :
    Calls Tryd.prog 20 #[.agg (opA (mkS t) (m : Int) z y), .agg (fcA T D K n)] w fun e w' => e = .returned (.tuple #[.string (mkS ([70] ++ tmOs m ++ tmImm t ++ tmLong t T D)), .string (mkS [])]) ∧ Below w.heap.size w w' := by
  obtain ⟨ho1, ho2, ho3, ho4, ho5⟩ := tmOs_rep ⟨m, hm⟩
  dsimp only at ho1 ho2 ho3 ho4 ho5
  have hbh := fun W => mbehind_any m W
  rw [ho2] at hbh
  obtain ⟨q, hq⟩ : ∃ q, (bhP (m : Int)).toNat = q := ⟨_, rfl⟩
  rw [hq] at ho1 ho3 hbh
  have hrp := fun W => sh_strings_Repeat ⟨#[79]⟩ q W (by omega) (by show 1 * q ≤ _; omega)
  rw [show (⟨(Lib.repeatL (⟨#[79]⟩ : ByteArray).data.toList q).toArray⟩ : ByteArray) = mkS (tmOs m) from congrArg mkS ho1] at hrp
  obtain ⟨X, hX⟩ : ∃ X, mkS (tmOs m) = X := ⟨_, rfl⟩
  have hXz : X.size ≤ 6 := by rw [← hX]; exact mkS_sz _ ho4
  rw [hX] at hrp
  obtain ⟨S, hS⟩ : ∃ S, mkS t = S := ⟨_, rfl⟩
  have hSt : S.toList = t := by rw [← hS, mkS_toList]
  have hSz : 3 ≤ S.size := by rw [← hS, mkS_size]; exact h3
  rw [hS]
  have c1z : (⟨#[70]⟩ : ByteArray).size = 1 := rfl
  have c3z : (⟨#[80, 80, 80]⟩ : ByteArray).size = 3 := rfl
  have c4z : (⟨#[68]⟩ : ByteArray).size = 1 := rfl
  obtain ⟨Y, hY⟩ : ∃ Y, mkS (tmImm S.toList) = Y := ⟨_, rfl⟩
  have hYz : Y.size ≤ 9 := by rw [← hY]; exact mkS_sz _ (tmImm_len _)
  have him := fun W => timmediate_any S W
  rw [hY] at him
  have HY := Lib.hid hY
  obtain ⟨Z, hZ⟩ : ∃ Z, mkS (tmLong S.toList T D) = Z := ⟨_, rfl⟩
  have hZz : Z.size ≤ 9 := by rw [← hZ]; exact mkS_sz _ (tmLong_len _ _ _)
  have hlg := fun W => tlong_any S T D K n W
  rw [hZ] at hlg
  have HZ := Lib.hid hZ
  clear hY hZ

  have e19 : ((m : Int) == 19) = false := by simp; omega
  have e0 : ((m : Int) == 0) = false := by simp; omega
  have e1 : ((m : Int) == 1) = true := by simp; omega
  have HX := Lib.hid hX
  have HSt := Lib.hid hSt
  have HE : Hid (catB [⟨#[70]⟩, X, Y, Z] = mkS ([70] ++ tmOs m ++ tmImm t ++ tmLong t T D)) := Lib.hid (by rw [← HX.out, ← HY.out, ← HZ.out, HSt.out]; exact cat_eq [[70], tmOs m, tmImm t, tmLong t T D] _ (by simp))
  clear h1
  clear ho1 ho2 ho4 ho5 hq hX hS hSt h3
  obtain ⟨w1, hw1⟩ : ∃ w1, (w.alloc (.cells (opA S (m : Int) z y) 51)).alloc (.cells (fcA T D K n) 23) = w1 := ⟨_, rfl⟩
  have K0 : Hid (Blk w1 w.heap.size 51 (opA S (m : Int) z y)) := Lib.hid (by rw [← hw1]; exact (Blk.new w _ _).alloc _)
  have K1 : Hid (Blk w1 (w.heap.size + 1) 23 (fcA T D K n)) := Lib.hid (by rw [← hw1]; exact Blk.new_ (by simp))
  have HB : Hid (Below w.heap.size w w1) := Lib.hid (by rw [← hw1]; exact ((Below.refl _ w).alloc (Nat.le_refl _) _).alloc (by simp) _)
  have HW1 := Lib.hid hw1
  clear hw1
  obtain ⟨s0, s1, s2⟩ := row_cells K0.out K1.out
  go_enter Tryd.func20, Tryd.ntmps20
  go_upto_region 1 with fail
  rw [HW1.out]
  go_wp2_with (go_at_call 38; refine (hbh _).mono ?_; rintro e w' ⟨rfl, rfl⟩)
  refine (hrp _).mono ?_
  rintro e w2 ⟨rfl, hb2⟩
  have K02 := Lib.hid (K0.out.below hb2 K0.out.lt)
  have K12 := Lib.hid (K1.out.below hb2 K1.out.lt)
  have HB2 := Lib.hid (HB.out.trans (hb2.mono HB.out.size))
  clear s0 s1 s2 hb2 hrp hbh
  obtain ⟨s0, s1, s2⟩ := row_cells K02.out K12.out
  go_upto_region 8 with fail
  refine rg_begin (S := fun w' => w'.cell? ⟨w.heap.size, 0, none⟩ = some (.string S) ∧ w'.cell? ⟨w.heap.size, 1, none⟩ = some (.int .u8 m) ∧ Blk w' (w.heap.size + 1) 23 (fcA T D K n)) 12 #[false, false, false, false, false, false, false, false, false, false, false, false] (by kernel_rfl) (by kernel_rfl) (by kernel_rfl) ?_ (fun hHeld => ?_)
  · exact row_cells K02.out.drew_ K12.out.drew_
  refine rg_take (i := 0) (d := some 27) (l := #[true, false, false, false, false, false, false, false, false, false, false, false]) (fuel := 11) (v := ?_) rfl (by kernel_rfl) (by kernel_rfl) (by kernel_rfl) (by kernel_rfl) (by kernel_rfl) (fun _ _ _ h => h) (by kernel_rfl) ?_ (by assumption) ?_
  rotate_left 1
  · (intro wS hSw; (try dsimp only at hSw); go_simp; try with_reducible rfl)
  try simp only [Act.put, List.setIfInBounds_toArray, List.set_cons_zero, List.set_cons_succ]
  refine rg_take (i := 1) (d := some 28) (l := #[true, true, false, false, false, false, false, false, false, false, false, false]) (fuel := 10) (v := ?_) rfl (by kernel_rfl) (by kernel_rfl) (by kernel_rfl) (by kernel_rfl) (by kernel_rfl) (fun _ _ _ h => h) (by kernel_rfl) ?_ (by assumption) ?_
  rotate_left 1
  · (intro wS hSw; (try dsimp only at hSw); go_simp; try with_reducible rfl)
  try simp only [Act.put, List.setIfInBounds_toArray, List.set_cons_zero, List.set_cons_succ]
  refine rg_take (i := 2) (d := some 29) (l := #[true, true, true, false, false, false, false, false, false, false, false, false]) (fuel := 9) (v := ?_) rfl (by kernel_rfl) (by kernel_rfl) (by kernel_rfl) (by kernel_rfl) (by kernel_rfl) (fun _ _ _ h => h) (by kernel_rfl) ?_ (by assumption) ?_
  rotate_left 1
  · (intro wS hSw; (try dsimp only at hSw); go_simp; try with_reducible rfl)
  try simp only [Act.put, List.setIfInBounds_toArray, List.set_cons_zero, List.set_cons_succ]
  refine rg_take (i := 4) (d := some 31) (l := #[true, true, true, false, true, false, false, false, false, false, false, false]) (fuel := 8) (v := ?_) rfl (by kernel_rfl) (by kernel_rfl) (by kernel_rfl) (by kernel_rfl) (by kernel_rfl) (fun _ _ _ h => h) (by kernel_rfl) ?_ (by assumption) ?_
  rotate_left 1
  · (intro wS hSw; (try dsimp only at hSw); go_simp; try with_reducible rfl)
  try simp only [Act.put, List.setIfInBounds_toArray, List.set_cons_zero, List.set_cons_succ]
  refine rg_take (i := 5) (d := some 32) (l := #[true, true, true, false, true, true, false, false, false, false, false, false]) (fuel := 7) (v := ?_) rfl (by kernel_rfl) (by kernel_rfl) (by kernel_rfl) (by kernel_rfl) (by kernel_rfl) (fun _ _ _ h => h) (by kernel_rfl) ?_ (by assumption) ?_
  rotate_left 1
  · (intro wS hSw; (try dsimp only at hSw); go_simp; try with_reducible rfl)
  try simp only [Act.put, List.setIfInBounds_toArray, List.set_cons_zero, List.set_cons_succ]
  refine rg_take (i := 6) (d := some 33) (l := #[true, true, true, false, true, true, true, false, false, false, false, false]) (fuel := 6) (v := .agg (fcA T D K n)) rfl (by kernel_rfl) (by kernel_rfl) (by kernel_rfl) (by kernel_rfl) (by kernel_rfl) (fun _ _ _ h => h) (by kernel_rfl) ?_ (by assumption) ?_
  · (intro wS hSw; (try dsimp only at hSw); exact exec_load_row 23 (.tmp 3) rfl (w.heap.size + 1) rfl 23 (fcA T D K n) (0, 0) _ hSw.2.2 Tryd.underlying23 rfl (by kernel_rfl))
  try simp only [Act.put, List.setIfInBounds_toArray, List.set_cons_zero, List.set_cons_succ]
  refine rg_next (i := 3) (l := #[true, true, true, true, true, true, true, false, false, false, false, false]) (fuel := 5) (by kernel_rfl) rfl (by kernel_rfl) (by kernel_rfl) (fun K hK => ?_)
  go_simp
  go_at_call 41
  refine (him _).mono ?_
  rintro e w3 ⟨rfl, rfl⟩
  first | (refine hK.out _ _ ?_ (fun hHeld => ?_)) | (go_wp2_with fail; refine hK.out _ _ ?_ (fun hHeld => ?_))
  · (try dsimp only); exact row_cells K02.out.drew_ K12.out.drew_
  clear hK K
  try simp only [Act.put, List.setIfInBounds_toArray, List.set_cons_zero, List.set_cons_succ]
  refine rg_next (i := 7) (l := #[true, true, true, true, true, true, true, true, false, false, false, false]) (fuel := 4) (by kernel_rfl) rfl (by kernel_rfl) (by kernel_rfl) (fun K hK => ?_)
  go_simp
  go_at_call 42
  refine (hlg _).mono ?_
  rintro e w4 ⟨rfl, hb4⟩
  have K04 := Lib.hid (K02.out.drew_.below hb4 K02.out.drew_.lt)
  have K14 := Lib.hid (K12.out.drew_.below hb4 K12.out.drew_.lt)
  have HB4 := Lib.hid (HB2.out.drew.trans (hb4.mono HB2.out.drew.size))
  clear hb4 s0 s1 s2
  first | (refine hK.out _ _ ?_ (fun hHeld => ?_)) | (go_wp2_with fail; refine hK.out _ _ ?_ (fun hHeld => ?_))
  · (try dsimp only); exact row_cells K04.out K14.out
  clear hK K
  try simp only [Act.put, List.setIfInBounds_toArray, List.set_cons_zero, List.set_cons_succ]
  refine rg_next (i := 8) (l := #[true, true, true, true, true, true, true, true, true, false, false, false]) (fuel := 3) (by kernel_rfl) rfl (by kernel_rfl) (by kernel_rfl) (fun K hK => ?_)
  go_simp
  skip
  first | (refine hK.out _ _ ?_ (fun hHeld => ?_)) | (go_wp2_with fail; refine hK.out _ _ ?_ (fun hHeld => ?_))
  · (try dsimp only); exact row_cells (K04.out.alloc _) (K14.out.alloc _)
  clear hK K
  try simp only [Act.put, List.setIfInBounds_toArray, List.set_cons_zero, List.set_cons_succ]
  refine rg_next (i := 9) (l := #[true, true, true, true, true, true, true, true, true, true, false, false]) (fuel := 2) (by kernel_rfl) rfl (by kernel_rfl) (by kernel_rfl) (fun K hK => ?_)
  go_simp
  go_at_call 39
  refine (tjoined_any _ 4 [⟨#[70]⟩, X, Y, Z] _ (Blk.new_ (by simp)) (by simp) (by simp) (by simp only [List.map_cons, List.map_nil, List.sum_cons, List.sum_nil, c1z]; omega)).mono ?_
  rintro e w9 ⟨rfl, hb9⟩
  have HB9 := Lib.hid (HB4.out.trans ((((Below.refl _ w4).alloc (Nat.le_refl _) _).trans (hb9.mono (by simp))).mono HB4.out.size))
  have K09 := Lib.hid ((K04.out.alloc _).below hb9 (K04.out.alloc _).lt)
  have K19 := Lib.hid ((K14.out.alloc _).below hb9 (K14.out.alloc _).lt)
  clear hb9
  first | (refine hK.out _ _ ?_ (fun hHeld => ?_)) | (go_wp2_with fail; refine hK.out _ _ ?_ (fun hHeld => ?_))
  · (try dsimp only); exact row_cells K09.out K19.out
  clear hK K
  try simp only [Act.put, List.setIfInBounds_toArray, List.set_cons_zero, List.set_cons_succ]
  refine rg_take (i := 10) (d := some 4) (l := #[true, true, true, true, true, true, true, true, true, true, true, false]) (fuel := 1) (v := ?_) rfl (by kernel_rfl) (by kernel_rfl) (by kernel_rfl) (by kernel_rfl) (by kernel_rfl) (fun _ _ _ h => h) (by kernel_rfl) ?_ (by assumption) ?_
  rotate_left 1
  · (intro wS hSw; (try dsimp only at hSw); go_simp; try with_reducible rfl)
  try simp only [Act.put, List.setIfInBounds_toArray, List.set_cons_zero, List.set_cons_succ]
  refine rg_take (i := 11) (d := some 5) (l := #[true, true, true, true, true, true, true, true, true, true, true, true]) (fuel := 0) (v := ?_) rfl (by kernel_rfl) (by kernel_rfl) (by kernel_rfl) (by kernel_rfl) (by kernel_rfl) (fun _ _ _ h => h) (by kernel_rfl) ?_ (by assumption) ?_
  rotate_left 1
  · (intro wS hSw; (try dsimp only at hSw); go_simp; try with_reducible rfl)
  try simp only [Act.put, List.setIfInBounds_toArray, List.set_cons_zero, List.set_cons_succ]
  refine wpAnyH_done (by kernel_rfl) ?_ _
  clear hHeld
  go_wp2_with fail
  go_ret2
  exact ⟨by rw [HE.out]; rfl, HB9.out⟩
set_option maxHeartbeats 8000000 in
theorem trow_oth (t : List UInt8) (m : Nat) (hm : m < 20) (hn : ¬ m = 19 ∧ ¬ m = 0 ∧ ¬ m = 1 ∧ ¬ m = 11 ∧ ¬ m = 12) (h3 : 3 ≤ t.length) (z y : Int) (T D K : Bool) (n : Int) (w : World) :
    Calls Tryd.prog 20 #[.agg (opA (mkS t) (m : Int) z y), .agg (fcA T D K n)] w fun e w' => e = .returned (.tuple #[.string (mkS ([70] ++ tmOs m ++ tmFound m ++ tmDone (t.take 3) ++ tmLong t T D)), .string (mkS [])]) ∧ Below w.heap.size w w' := by
  obtain ⟨ho1, ho2, ho3, ho4, ho5⟩ := tmOs_rep ⟨m, hm⟩
  dsimp only at ho1 ho2 ho3 ho4 ho5
  have hbh := fun W => mbehind_any m W
  rw [ho2] at hbh
  obtain ⟨q, hq⟩ : ∃ q, (bhP (m : Int)).toNat = q := ⟨_, rfl⟩
  rw [hq] at ho1 ho3 hbh
  have hrp := fun W => sh_strings_Repeat ⟨#[79]⟩ q W (by omega) (by show 1 * q ≤ _; omega)
  rw [show (⟨(Lib.repeatL (⟨#[79]⟩ : ByteArray).data.toList q).toArray⟩ : ByteArray) = mkS (tmOs m) from congrArg mkS ho1] at hrp
  obtain ⟨X, hX⟩ : ∃ X, mkS (tmOs m) = X := ⟨_, rfl⟩
  have hXz : X.size ≤ 6 := by rw [← hX]; exact mkS_sz _ ho4
  rw [hX] at hrp
  obtain ⟨S, hS⟩ : ∃ S, mkS t = S := ⟨_, rfl⟩
  have hSt : S.toList = t := by rw [← hS, mkS_toList]
  have hSz : 3 ≤ S.size := by rw [← hS, mkS_size]; exact h3
  rw [hS]
  have c1z : (⟨#[70]⟩ : ByteArray).size = 1 := rfl
  have c3z : (⟨#[80, 80, 80]⟩ : ByteArray).size = 3 := rfl
  have c4z : (⟨#[68]⟩ : ByteArray).size = 1 := rfl
  obtain ⟨Y, hY⟩ : ∃ Y, mkS (tmFound m) = Y := ⟨_, rfl⟩
  have hYz : Y.size ≤ 4 := by rw [← hY]; exact mkS_sz _ ho5
  have hfd := fun W => tfound_any m hm W
  rw [hY] at hfd
  have HY := Lib.hid hY
  obtain ⟨U, hU⟩ : ∃ U, mkS (tmDone (S.toList.take 3)) = U := ⟨_, rfl⟩
  have hUz : U.size ≤ 9 := by rw [← hU]; exact mkS_sz _ (tmDone_len _)
  have hdn := fun W => tdone_any S hSz W
  rw [hU] at hdn
  have HU := Lib.hid hU
  obtain ⟨Z, hZ⟩ : ∃ Z, mkS (tmLong S.toList T D) = Z := ⟨_, rfl⟩
  have hZz : Z.size ≤ 9 := by rw [← hZ]; exact mkS_sz _ (tmLong_len _ _ _)
  have hlg := fun W => tlong_any S T D K n W
  rw [hZ] at hlg
  have HZ := Lib.hid hZ
  clear hY hU hZ

  have e19 : ((m : Int) == 19) = false := by simp; omega
  have e0 : ((m : Int) == 0) = false := by simp; omega
  have e1 : ((m : Int) == 1) = false := by simp; omega
  have e11 : ((m : Int) == 11) = false := by simp; omega
  have e12 : ((m : Int) == 12) = false := by simp; omega
  have HX := Lib.hid hX
  have HSt := Lib.hid hSt
  have HE : Hid (catB [⟨#[70]⟩, X, Y, U, Z] = mkS ([70] ++ tmOs m ++ tmFound m ++ tmDone (t.take 3) ++ tmLong t T D)) := Lib.hid (by rw [← HX.out, ← HY.out, ← HU.out, ← HZ.out, HSt.out]; exact cat_eq [[70], tmOs m, tmFound m, tmDone (t.take 3), tmLong t T D] _ (by simp))
  clear hn
  clear ho1 ho2 ho4 ho5 hq hX hS hSt h3
  obtain ⟨w1, hw1⟩ : ∃ w1, (w.alloc (.cells (opA S (m : Int) z y) 51)).alloc (.cells (fcA T D K n) 23) = w1 := ⟨_, rfl⟩
  have K0 : Hid (Blk w1 w.heap.size 51 (opA S (m : Int) z y)) := Lib.hid (by rw [← hw1]; exact (Blk.new w _ _).alloc _)
  have K1 : Hid (Blk w1 (w.heap.size + 1) 23 (fcA T D K n)) := Lib.hid (by rw [← hw1]; exact Blk.new_ (by simp))
  have HB : Hid (Below w.heap.size w w1) := Lib.hid (by rw [← hw1]; exact ((Below.refl _ w).alloc (Nat.le_refl _) _).alloc (by simp) _)
  have HW1 := Lib.hid hw1
  clear hw1
  obtain ⟨s0, s1, s2⟩ := row_cells K0.out K1.out
  go_enter Tryd.func20, Tryd.ntmps20
  go_upto_region 1 with fail
  rw [HW1.out]
  go_wp2_with (go_at_call 38; refine (hbh _).mono ?_; rintro e w' ⟨rfl, rfl⟩)
  refine (hrp _).mono ?_
  rintro e w2 ⟨rfl, hb2⟩
  have K02 := Lib.hid (K0.out.below hb2 K0.out.lt)
  have K12 := Lib.hid (K1.out.below hb2 K1.out.lt)
  have HB2 := Lib.hid (HB.out.trans (hb2.mono HB.out.size))
  clear s0 s1 s2 hb2 hrp hbh
  obtain ⟨s0, s1, s2⟩ := row_cells K02.out K12.out
  go_upto_region 12 with fail
  refine rg_begin (S := fun w' => w'.cell? ⟨w.heap.size, 0, none⟩ = some (.string S) ∧ w'.cell? ⟨w.heap.size, 1, none⟩ = some (.int .u8 m) ∧ Blk w' (w.heap.size + 1) 23 (fcA T D K n)) 15 #[false, false, false, false, false, false, false, false, false, false, false, false, false, false, false] (by kernel_rfl) (by kernel_rfl) (by kernel_rfl) ?_ (fun hHeld => ?_)
  · exact row_cells K02.out.drew_ K12.out.drew_
  refine rg_take (i := 0) (d := some 46) (l := #[true, false, false, false, false, false, false, false, false, false, false, false, false, false, false]) (fuel := 14) (v := ?_) rfl (by kernel_rfl) (by kernel_rfl) (by kernel_rfl) (by kernel_rfl) (by kernel_rfl) (fun _ _ _ h => h) (by kernel_rfl) ?_ (by assumption) ?_
  rotate_left 1
  · (intro wS hSw; (try dsimp only at hSw); go_simp; try with_reducible rfl)
  try simp only [Act.put, List.setIfInBounds_toArray, List.set_cons_zero, List.set_cons_succ]
  refine rg_take (i := 1) (d := some 47) (l := #[true, true, false, false, false, false, false, false, false, false, false, false, false, false, false]) (fuel := 13) (v := ?_) rfl (by kernel_rfl) (by kernel_rfl) (by kernel_rfl) (by kernel_rfl) (by kernel_rfl) (fun _ _ _ h => h) (by kernel_rfl) ?_ (by assumption) ?_
  rotate_left 1
  · (intro wS hSw; (try dsimp only at hSw); go_simp; try with_reducible rfl)
  try simp only [Act.put, List.setIfInBounds_toArray, List.set_cons_zero, List.set_cons_succ]
  refine rg_take (i := 2) (d := some 48) (l := #[true, true, true, false, false, false, false, false, false, false, false, false, false, false, false]) (fuel := 12) (v := ?_) rfl (by kernel_rfl) (by kernel_rfl) (by kernel_rfl) (by kernel_rfl) (by kernel_rfl) (fun _ _ _ h => h) (by kernel_rfl) ?_ (by assumption) ?_
  rotate_left 1
  · (intro wS hSw; (try dsimp only at hSw); go_simp; try with_reducible rfl)
  try simp only [Act.put, List.setIfInBounds_toArray, List.set_cons_zero, List.set_cons_succ]
  refine rg_take (i := 4) (d := some 50) (l := #[true, true, true, false, true, false, false, false, false, false, false, false, false, false, false]) (fuel := 11) (v := ?_) rfl (by kernel_rfl) (by kernel_rfl) (by kernel_rfl) (by kernel_rfl) (by kernel_rfl) (fun _ _ _ h => h) (by kernel_rfl) ?_ (by assumption) ?_
  rotate_left 1
  · (intro wS hSw; (try dsimp only at hSw); go_simp; try with_reducible rfl)
  try simp only [Act.put, List.setIfInBounds_toArray, List.set_cons_zero, List.set_cons_succ]
  refine rg_take (i := 5) (d := some 51) (l := #[true, true, true, false, true, true, false, false, false, false, false, false, false, false, false]) (fuel := 10) (v := ?_) rfl (by kernel_rfl) (by kernel_rfl) (by kernel_rfl) (by kernel_rfl) (by kernel_rfl) (fun _ _ _ h => h) (by kernel_rfl) ?_ (by assumption) ?_
  rotate_left 1
  · (intro wS hSw; (try dsimp only at hSw); go_simp; try with_reducible rfl)
  try simp only [Act.put, List.setIfInBounds_toArray, List.set_cons_zero, List.set_cons_succ]
  refine rg_take (i := 7) (d := some 53) (l := #[true, true, true, false, true, true, false, true, false, false, false, false, false, false, false]) (fuel := 9) (v := ?_) rfl (by kernel_rfl) (by kernel_rfl) (by kernel_rfl) (by kernel_rfl) (by kernel_rfl) (fun _ _ _ h => h) (by kernel_rfl) ?_ (by assumption) ?_
  rotate_left 1
  · (intro wS hSw; (try dsimp only at hSw); go_simp; try with_reducible rfl)
  try simp only [Act.put, List.setIfInBounds_toArray, List.set_cons_zero, List.set_cons_succ]
  refine rg_take (i := 8) (d := some 54) (l := #[true, true, true, false, true, true, false, true, true, false, false, false, false, false, false]) (fuel := 8) (v := ?_) rfl (by kernel_rfl) (by kernel_rfl) (by kernel_rfl) (by kernel_rfl) (by kernel_rfl) (fun _ _ _ h => h) (by kernel_rfl) ?_ (by assumption) ?_
  rotate_left 1
  · (intro wS hSw; (try dsimp only at hSw); go_simp; try with_reducible rfl)
  try simp only [Act.put, List.setIfInBounds_toArray, List.set_cons_zero, List.set_cons_succ]
  refine rg_take (i := 9) (d := some 55) (l := #[true, true, true, false, true, true, false, true, true, true, false, false, false, false, false]) (fuel := 7) (v := .agg (fcA T D K n)) rfl (by kernel_rfl) (by kernel_rfl) (by kernel_rfl) (by kernel_rfl) (by kernel_rfl) (fun _ _ _ h => h) (by kernel_rfl) ?_ (by assumption) ?_
  · (intro wS hSw; (try dsimp only at hSw); exact exec_load_row 23 (.tmp 3) rfl (w.heap.size + 1) rfl 23 (fcA T D K n) (0, 0) _ hSw.2.2 Tryd.underlying23 rfl (by kernel_rfl))
  try simp only [Act.put, List.setIfInBounds_toArray, List.set_cons_zero, List.set_cons_succ]
  refine rg_next (i := 3) (l := #[true, true, true, true, true, true, false, true, true, true, false, false, false, false, false]) (fuel := 6) (by kernel_rfl) rfl (by kernel_rfl) (by kernel_rfl) (fun K hK => ?_)
  go_simp
  go_at_call 44
  refine (hfd _).mono ?_
  rintro e w3 ⟨rfl, rfl⟩
  first | (refine hK.out _ _ ?_ (fun hHeld => ?_)) | (go_wp2_with fail; refine hK.out _ _ ?_ (fun hHeld => ?_))
  · (try dsimp only); exact row_cells K02.out.drew_ K12.out.drew_
  clear hK K
  try simp only [Act.put, List.setIfInBounds_toArray, List.set_cons_zero, List.set_cons_succ]
  refine rg_next (i := 6) (l := #[true, true, true, true, true, true, true, true, true, true, false, false, false, false, false]) (fuel := 5) (by kernel_rfl) rfl (by kernel_rfl) (by kernel_rfl) (fun K hK => ?_)
  go_simp
  go_at_call 45
  refine (hdn _).mono ?_
  rintro e w3 ⟨rfl, rfl⟩
  first | (refine hK.out _ _ ?_ (fun hHeld => ?_)) | (go_wp2_with fail; refine hK.out _ _ ?_ (fun hHeld => ?_))
  · (try dsimp only); exact row_cells K02.out.drew_ K12.out.drew_
  clear hK K
  try simp only [Act.put, List.setIfInBounds_toArray, List.set_cons_zero, List.set_cons_succ]
  refine rg_next (i := 10) (l := #[true, true, true, true, true, true, true, true, true, true, true, false, false, false, false]) (fuel := 4) (by kernel_rfl) rfl (by kernel_rfl) (by kernel_rfl) (fun K hK => ?_)
  go_simp
  go_at_call 42
  refine (hlg _).mono ?_
  rintro e w4 ⟨rfl, hb4⟩
  have K04 := Lib.hid (K02.out.drew_.below hb4 K02.out.drew_.lt)
  have K14 := Lib.hid (K12.out.drew_.below hb4 K12.out.drew_.lt)
  have HB4 := Lib.hid (HB2.out.drew.trans (hb4.mono HB2.out.drew.size))
  clear hb4 s0 s1 s2
  first | (refine hK.out _ _ ?_ (fun hHeld => ?_)) | (go_wp2_with fail; refine hK.out _ _ ?_ (fun hHeld => ?_))
  · (try dsimp only); exact row_cells K04.out K14.out
  clear hK K
  try simp only [Act.put, List.setIfInBounds_toArray, List.set_cons_zero, List.set_cons_succ]
  refine rg_next (i := 11) (l := #[true, true, true, true, true, true, true, true, true, true, true, true, false, false, false]) (fuel := 3) (by kernel_rfl) rfl (by kernel_rfl) (by kernel_rfl) (fun K hK => ?_)
  go_simp
  skip
  first | (refine hK.out _ _ ?_ (fun hHeld => ?_)) | (go_wp2_with fail; refine hK.out _ _ ?_ (fun hHeld => ?_))
  · (try dsimp only); exact row_cells (K04.out.alloc _) (K14.out.alloc _)
  clear hK K
  try simp only [Act.put, List.setIfInBounds_toArray, List.set_cons_zero, List.set_cons_succ]
  refine rg_next (i := 12) (l := #[true, true, true, true, true, true, true, true, true, true, true, true, true, false, false]) (fuel := 2) (by kernel_rfl) rfl (by kernel_rfl) (by kernel_rfl) (fun K hK => ?_)
  go_simp
  go_at_call 39
  refine (tjoined_any _ 5 [⟨#[70]⟩, X, Y, U, Z] _ (Blk.new_ (by simp)) (by simp) (by simp) (by simp only [List.map_cons, List.map_nil, List.sum_cons, List.sum_nil, c1z]; omega)).mono ?_
  rintro e w9 ⟨rfl, hb9⟩
  have HB9 := Lib.hid (HB4.out.trans ((((Below.refl _ w4).alloc (Nat.le_refl _) _).trans (hb9.mono (by simp))).mono HB4.out.size))
  have K09 := Lib.hid ((K04.out.alloc _).below hb9 (K04.out.alloc _).lt)
  have K19 := Lib.hid ((K14.out.alloc _).below hb9 (K14.out.alloc _).lt)
  clear hb9
  first | (refine hK.out _ _ ?_ (fun hHeld => ?_)) | (go_wp2_with fail; refine hK.out _ _ ?_ (fun hHeld => ?_))
  · (try dsimp only); exact row_cells K09.out K19.out
  clear hK K
  try simp only [Act.put, List.setIfInBounds_toArray, List.set_cons_zero, List.set_cons_succ]
  refine rg_take (i := 13) (d := some 4) (l := #[true, true, true, true, true, true, true, true, true, true, true, true, true, true, false]) (fuel := 1) (v := ?_) rfl (by kernel_rfl) (by kernel_rfl) (by kernel_rfl) (by kernel_rfl) (by kernel_rfl) (fun _ _ _ h => h) (by kernel_rfl) ?_ (by assumption) ?_
  rotate_left 1
  · (intro wS hSw; (try dsimp only at hSw); go_simp; try with_reducible rfl)
  try simp only [Act.put, List.setIfInBounds_toArray, List.set_cons_zero, List.set_cons_succ]
  refine rg_take (i := 14) (d := some 5) (l := #[true, true, true, true, true, true, true, true, true, true, true, true, true, true, true]) (fuel := 0) (v := ?_) rfl (by kernel_rfl) (by kernel_rfl) (by kernel_rfl) (by kernel_rfl) (by kernel_rfl) (fun _ _ _ h => h) (by kernel_rfl) ?_ (by assumption) ?_
  rotate_left 1
  · (intro wS hSw; (try dsimp only at hSw); go_simp; try with_reducible rfl)
  try simp only [Act.put, List.setIfInBounds_toArray, List.set_cons_zero, List.set_cons_succ]
  refine wpAnyH_done (by kernel_rfl) ?_ _
  clear hHeld
  go_wp2_with fail
  go_ret2
  exact ⟨by rw [HE.out]; rfl, HB9.out⟩
theorem trow_any (t : List UInt8) (m : Nat) (hm : m < 20) (h3 : 3 ≤ t.length) (z y : Int) (T D K : Bool) (n : Int) (w : World) :
    Calls Tryd.prog 20 #[.agg (opA (mkS t) (m : Int) z y), .agg (fcA T D K n)] w fun e w' => e = .returned (.tuple #[.string (mkS (tmA t m T D K)), .string (mkS (tmB m))]) ∧ Below w.heap.size w w' := by
  unfold tmA tmB
  by_cases h19 : m = 19
  · rw [if_pos h19, if_pos h19]; exact trow_block t m hm h19 h3 z y T D K n w
  rw [if_neg h19, if_neg h19]
  by_cases h0 : m = 0
  · rw [if_pos h0]; exact trow_imp t m hm h0 h3 z y T D K n w
  rw [if_neg h0]
  by_cases h1 : m = 1
  · rw [if_pos h1]; exact trow_imm t m hm h1 h3 z y T D K n w
  rw [if_neg h1]
  by_cases hr : m = 11 ∨ m = 12
  · rw [if_pos hr]; exact trow_br t m hm hr h3 z y T D K n w
  rw [if_neg hr]
  exact trow_oth t m hm ⟨h19, h0, h1, by omega, by omega⟩ h3 z y T D K n w
end Go.Proofs.YtmbbcfdeielopaaDoorRRRR
