/-
  Texts of these proofs, one behind the other: Tm2, Tm3.
-/
import Derived.Test.YtmbbcfdeielopaaDoorRRRRKTK12
import Derived.Test.YtmbbcfdeielopaaDoorRRRRKTK13
import Derived.Test.YtmbbcfdeielopaaDoorRRRRKTK04
import Derived.Lib.Join
namespace Go.Proofs.YtmbbcfdeielopaaDoorRRRR
open Go.RowKit
set_option linter.unusedVariables false
set_option linter.unusedSimpArgs false
set_option maxRecDepth 100000
/-- Strings one behind the other. -/
def catB (xs : List ByteArray) : ByteArray := mkS (xs.map (·.data.toList)).flatten
theorem join_flat : ∀ xs : List (List UInt8), Lib.join xs [] = xs.flatten
  | [] => rfl
  | x :: r => by rw [Lib.join_cons]; simp [Lib.joinTail]
theorem flat_len : ∀ xs : List ByteArray, (xs.map (·.data.toList)).flatten.length = (xs.map (·.size)).sum
  | [] => rfl
  | x :: r => by simp only [List.map_cons, List.flatten_cons, List.length_append, flat_len r, List.sum_cons]; rfl
theorem tjoined_any (g c : Nat) (xs : List ByteArray) (w : World) (hB : Blk w g 9 (xs.map Value.string).toArray) (hl : xs.length ≤ 100) (hc : xs.length ≤ c) (hz : (xs.map (·.size)).sum ≤ 1000000) :
    Calls Tryd.prog 39 #[.slice (some ⟨g, 0, none⟩) xs.length c] w fun e w' => e = .returned (.string (catB xs)) ∧ Below w.heap.size w w' := by
  have hj := sh_strings_Join g 0 c xs ⟨#[]⟩ w (fun j x hx => by
    rw [Nat.zero_add, hB.cell j]
    simp [hx]) hB.lt (by omega) hc (by
      show (Lib.join (xs.map (·.data.toList)) []).length ≤ _
      rw [join_flat, flat_len]; omega)
  have he : (⟨(Lib.join (xs.map (·.data.toList)) (⟨#[]⟩ : ByteArray).data.toList).toArray⟩ : ByteArray) = catB xs := by
    show mkS (Lib.join (xs.map (·.data.toList)) []) = _
    rw [join_flat]; rfl
  rw [he] at hj
  obtain ⟨X, hX⟩ : ∃ X, catB xs = X := ⟨_, rfl⟩
  rw [hX] at hj ⊢
  obtain ⟨n, hn⟩ : ∃ n, xs.length = n := ⟨_, rfl⟩
  rw [hn] at hj ⊢
  clear hB hl hc hz he hX hn
  go_enter Tryd.func39, Tryd.ntmps39
  go_wp2_with fail
  refine hj.mono ?_
  rintro e w' ⟨rfl, hb⟩
  go_wp2_with fail
  go_ret
  exact ⟨rfl, hb⟩
def opA (S : ByteArray) (m z y : Int) : Array Value := #[.string S, .int .u8 m, .int .i64 z, .int .i64 y]
def fcA (T D K : Bool) (n : Int) : Array Value := #[.bool T, .bool D, .bool K, .int .i64 n]
set_option maxHeartbeats 8000000 in
theorem tmoved_any (S : ByteArray) (m : Nat) (z y : Int) (T D K : Bool) (n : Int) (w : World) :
    Calls Tryd.prog 23 #[.agg (opA S m z y), .agg (fcA T D K n)] w fun e w' => e = .returned (.int .i64 (tmMv m n : Int)) ∧ Below w.heap.size w w' := by
  have hv : (tmMv m n : Int) = if m = 19 then min (max n 0) 65536 else 0 := by unfold tmMv; split <;> omega
  rw [hv]
  clear hv
  unfold opA fcA
  have hm : ((m : Int) != 19) = decide (m ≠ 19) := by
    by_cases h : m = 19
    · subst h; rfl
    · simp [h]; omega
  by_cases h19 : m = 19
  · rw [if_pos h19]
    subst h19
    clear hm
    go_enter Tryd.func23, Tryd.ntmps23
    go_wp2
    all_goals go_ret
    all_goals refine ⟨?_, ((Below.refl _ w).alloc (Nat.le_refl _) _).alloc (by simp) _⟩
    all_goals congr 2
    all_goals omega
  · rw [if_neg h19]
    rw [decide_eq_true h19] at hm
    clear h19
    go_enter Tryd.func23, Tryd.ntmps23
    go_wp2
    all_goals go_ret
    all_goals exact ⟨rfl, ((Below.refl _ w).alloc (Nat.le_refl _) _).alloc (by simp) _⟩
end Go.Proofs.YtmbbcfdeielopaaDoorRRRR
namespace Go.Proofs.YtmbbcfdeielopaaDoorRRRR
open Go.RowKit
set_option linter.unusedVariables false
set_option linter.unusedSimpArgs false
set_option maxRecDepth 100000
set_option maxHeartbeats 8000000 in
theorem tlong_00 (S : ByteArray) (K : Bool) (n : Int) (w : World) :
    Calls Tryd.prog 42 #[.string S, .agg (fcA false false K n)] w fun e w' => e = .returned (.string (mkS (tmLong S.toList false false))) ∧ Below w.heap.size w w' := by
  unfold fcA
  go_enter Tryd.func42, Tryd.ntmps42
  go_wp2_with (go_at_call 39; refine (tjoined_any _ 2 [⟨#[]⟩, ⟨#[]⟩] _ (Blk.new_ (by simp)) (by decide) (by decide) (by decide)).mono ?_; rintro e w' ⟨rfl, hb⟩)
  all_goals go_ret
  all_goals refine ⟨?_, ?_⟩
  all_goals first
    | exact (Below.refl _ w).alloc (Nat.le_refl _) _
    | exact (((Below.refl _ w).alloc (Nat.le_refl _) _).alloc (by simp) _).trans (hb.mono (by simp; omega))
    | (simp_all [tmLong, mkS, catB])
set_option maxHeartbeats 8000000 in
theorem tlong_01 (S : ByteArray) (K : Bool) (n : Int) (w : World) :
    Calls Tryd.prog 42 #[.string S, .agg (fcA false true K n)] w fun e w' => e = .returned (.string (mkS (tmLong S.toList false true))) ∧ Below w.heap.size w w' := by
  unfold fcA
  go_enter Tryd.func42, Tryd.ntmps42
  go_wp2_with (go_at_call 39; refine (tjoined_any _ 2 [⟨#[]⟩, ⟨#[68]⟩] _ (Blk.new_ (by simp)) (by decide) (by decide) (by decide)).mono ?_; rintro e w' ⟨rfl, hb⟩)
  all_goals go_ret
  all_goals refine ⟨?_, ?_⟩
  all_goals first
    | exact (Below.refl _ w).alloc (Nat.le_refl _) _
    | exact (((Below.refl _ w).alloc (Nat.le_refl _) _).alloc (by simp) _).trans (hb.mono (by simp; omega))
    | (simp_all [tmLong, mkS, catB])
set_option maxHeartbeats 8000000 in
theorem tlong_10 (S : ByteArray) (K : Bool) (n : Int) (w : World) :
    Calls Tryd.prog 42 #[.string S, .agg (fcA true false K n)] w fun e w' => e = .returned (.string (mkS (tmLong S.toList true false))) ∧ Below w.heap.size w w' := by
  unfold fcA
  go_enter Tryd.func42, Tryd.ntmps42
  go_wp2_with (go_at_call 39; refine (tjoined_any _ 2 [⟨#[76, 68, 83]⟩, ⟨#[]⟩] _ (Blk.new_ (by simp)) (by decide) (by decide) (by decide)).mono ?_; rintro e w' ⟨rfl, hb⟩)
  all_goals go_ret
  all_goals refine ⟨?_, ?_⟩
  all_goals first
    | exact (Below.refl _ w).alloc (Nat.le_refl _) _
    | exact (((Below.refl _ w).alloc (Nat.le_refl _) _).alloc (by simp) _).trans (hb.mono (by simp; omega))
    | (simp_all [tmLong, mkS, catB])
set_option maxHeartbeats 8000000 in
theorem tlong_11 (S : ByteArray) (K : Bool) (n : Int) (w : World) :
    Calls Tryd.prog 42 #[.string S, .agg (fcA true true K n)] w fun e w' => e = .returned (.string (mkS (tmLong S.toList true true))) ∧ Below w.heap.size w w' := by
  unfold fcA
  go_enter Tryd.func42, Tryd.ntmps42
  go_wp2_with (go_at_call 39; refine (tjoined_any _ 2 [⟨#[76, 68, 83]⟩, ⟨#[68]⟩] _ (Blk.new_ (by simp)) (by decide) (by decide) (by decide)).mono ?_; rintro e w' ⟨rfl, hb⟩)
  all_goals go_ret
  all_goals refine ⟨?_, ?_⟩
  all_goals first
    | exact (Below.refl _ w).alloc (Nat.le_refl _) _
    | exact (((Below.refl _ w).alloc (Nat.le_refl _) _).alloc (by simp) _).trans (hb.mono (by simp; omega))
    | (simp_all [tmLong, mkS, catB])
theorem tlong_any (S : ByteArray) (T D K : Bool) (n : Int) (w : World) :
    Calls Tryd.prog 42 #[.string S, .agg (fcA T D K n)] w fun e w' => e = .returned (.string (mkS (tmLong S.toList T D))) ∧ Below w.heap.size w w' := by
  cases T <;> cases D
  · exact tlong_00 S K n w
  · exact tlong_01 S K n w
  · exact tlong_10 S K n w
  · exact tlong_11 S K n w
set_option maxHeartbeats 8000000 in
theorem tbr_00 (S : ByteArray) (m : Nat) (hm : ¬ m = 12) (z y : Int) (T D : Bool) (n : Int) (w : World) :
    Calls Tryd.prog 43 #[.agg (opA S (m : Int) z y), .agg (fcA T D false n)] w fun e w' => e = .returned (.string (mkS (tmBr S.toList m false))) ∧ Below w.heap.size w w' := by
  have hr : tmBr S.toList m false = [] ++ (if S.toList == [66, 83, 82] then [68, 80, 80, 68, 68, 68] else if false || S.toList == [66, 82, 65] then [68, 68] else []) := by unfold tmBr; simp [hm]
  have HR := Lib.hid hr
  clear hr
  have e1 : ((m : Int) == 12) = false := by simp; omega
  clear hm
  unfold fcA opA
  go_enter Tryd.func43, Tryd.ntmps43
  go_wp2_with (go_at_call 39; first
    | (refine (tjoined_any _ 2 [⟨#[]⟩, ⟨#[68, 68]⟩] _ (Blk.new_ (by simp)) (by decide) (by decide) (by decide)).mono ?_; rintro e w' ⟨rfl, hb⟩)
    | (refine (tjoined_any _ 2 [⟨#[]⟩, ⟨#[68, 80, 80, 68, 68, 68]⟩] _ (Blk.new_ (by simp)) (by decide) (by decide) (by decide)).mono ?_; rintro e w' ⟨rfl, hb⟩)
    | (refine (tjoined_any _ 2 [⟨#[]⟩, ⟨#[]⟩] _ (Blk.new_ (by simp)) (by decide) (by decide) (by decide)).mono ?_; rintro e w' ⟨rfl, hb⟩))
  all_goals go_ret
  all_goals refine ⟨?_, ?_⟩
  all_goals first
    | exact ((((Below.refl _ w).alloc (Nat.le_refl _) _).alloc (by simp) _).alloc (by simp; omega) _).trans (hb.mono (by simp; omega))
    | (rw [HR.out]; simp_all [mkS, catB])
set_option maxHeartbeats 8000000 in
theorem tbr_01 (S : ByteArray) (m : Nat) (hm : ¬ m = 12) (z y : Int) (T D : Bool) (n : Int) (w : World) :
    Calls Tryd.prog 43 #[.agg (opA S (m : Int) z y), .agg (fcA T D true n)] w fun e w' => e = .returned (.string (mkS (tmBr S.toList m true))) ∧ Below w.heap.size w w' := by
  have hr : tmBr S.toList m true = [] ++ (if S.toList == [66, 83, 82] then [68, 80, 80, 68, 68, 68] else if true || S.toList == [66, 82, 65] then [68, 68] else []) := by unfold tmBr; simp [hm]
  have HR := Lib.hid hr
  clear hr
  have e1 : ((m : Int) == 12) = false := by simp; omega
  clear hm
  unfold fcA opA
  go_enter Tryd.func43, Tryd.ntmps43
  go_wp2_with (go_at_call 39; first
    | (refine (tjoined_any _ 2 [⟨#[]⟩, ⟨#[68, 68]⟩] _ (Blk.new_ (by simp)) (by decide) (by decide) (by decide)).mono ?_; rintro e w' ⟨rfl, hb⟩)
    | (refine (tjoined_any _ 2 [⟨#[]⟩, ⟨#[68, 80, 80, 68, 68, 68]⟩] _ (Blk.new_ (by simp)) (by decide) (by decide) (by decide)).mono ?_; rintro e w' ⟨rfl, hb⟩)
    | (refine (tjoined_any _ 2 [⟨#[]⟩, ⟨#[]⟩] _ (Blk.new_ (by simp)) (by decide) (by decide) (by decide)).mono ?_; rintro e w' ⟨rfl, hb⟩))
  all_goals go_ret
  all_goals refine ⟨?_, ?_⟩
  all_goals first
    | exact ((((Below.refl _ w).alloc (Nat.le_refl _) _).alloc (by simp) _).alloc (by simp; omega) _).trans (hb.mono (by simp; omega))
    | (rw [HR.out]; simp_all [mkS, catB])
set_option maxHeartbeats 8000000 in
theorem tbr_10 (S : ByteArray) (m : Nat) (z y : Int) (T D : Bool) (n : Int) (w : World) :
    Calls Tryd.prog 43 #[.agg (opA S 12 z y), .agg (fcA T D false n)] w fun e w' => e = .returned (.string (mkS (tmBr S.toList 12 false))) ∧ Below w.heap.size w w' := by
  have hr : tmBr S.toList 12 false = [68, 76, 68] ++ (if S.toList == [66, 83, 82] then [68, 80, 80, 68, 68, 68] else if false || S.toList == [66, 82, 65] then [68, 68] else []) := by unfold tmBr; simp
  have HR := Lib.hid hr
  clear hr
  unfold fcA opA
  go_enter Tryd.func43, Tryd.ntmps43
  go_wp2_with (go_at_call 39; first
    | (refine (tjoined_any _ 2 [⟨#[68, 76, 68]⟩, ⟨#[68, 68]⟩] _ (Blk.new_ (by simp)) (by decide) (by decide) (by decide)).mono ?_; rintro e w' ⟨rfl, hb⟩)
    | (refine (tjoined_any _ 2 [⟨#[68, 76, 68]⟩, ⟨#[68, 80, 80, 68, 68, 68]⟩] _ (Blk.new_ (by simp)) (by decide) (by decide) (by decide)).mono ?_; rintro e w' ⟨rfl, hb⟩)
    | (refine (tjoined_any _ 2 [⟨#[68, 76, 68]⟩, ⟨#[]⟩] _ (Blk.new_ (by simp)) (by decide) (by decide) (by decide)).mono ?_; rintro e w' ⟨rfl, hb⟩))
  all_goals go_ret
  all_goals refine ⟨?_, ?_⟩
  all_goals first
    | exact ((((Below.refl _ w).alloc (Nat.le_refl _) _).alloc (by simp) _).alloc (by simp; omega) _).trans (hb.mono (by simp; omega))
    | (rw [HR.out]; simp_all [mkS, catB])
set_option maxHeartbeats 8000000 in
theorem tbr_11 (S : ByteArray) (m : Nat) (z y : Int) (T D : Bool) (n : Int) (w : World) :
    Calls Tryd.prog 43 #[.agg (opA S 12 z y), .agg (fcA T D true n)] w fun e w' => e = .returned (.string (mkS (tmBr S.toList 12 true))) ∧ Below w.heap.size w w' := by
  have hr : tmBr S.toList 12 true = [68, 76, 68] ++ (if S.toList == [66, 83, 82] then [68, 80, 80, 68, 68, 68] else if true || S.toList == [66, 82, 65] then [68, 68] else []) := by unfold tmBr; simp
  have HR := Lib.hid hr
  clear hr
  unfold fcA opA
  go_enter Tryd.func43, Tryd.ntmps43
  go_wp2_with (go_at_call 39; first
    | (refine (tjoined_any _ 2 [⟨#[68, 76, 68]⟩, ⟨#[68, 68]⟩] _ (Blk.new_ (by simp)) (by decide) (by decide) (by decide)).mono ?_; rintro e w' ⟨rfl, hb⟩)
    | (refine (tjoined_any _ 2 [⟨#[68, 76, 68]⟩, ⟨#[68, 80, 80, 68, 68, 68]⟩] _ (Blk.new_ (by simp)) (by decide) (by decide) (by decide)).mono ?_; rintro e w' ⟨rfl, hb⟩)
    | (refine (tjoined_any _ 2 [⟨#[68, 76, 68]⟩, ⟨#[]⟩] _ (Blk.new_ (by simp)) (by decide) (by decide) (by decide)).mono ?_; rintro e w' ⟨rfl, hb⟩))
  all_goals go_ret
  all_goals refine ⟨?_, ?_⟩
  all_goals first
    | exact ((((Below.refl _ w).alloc (Nat.le_refl _) _).alloc (by simp) _).alloc (by simp; omega) _).trans (hb.mono (by simp; omega))
    | (rw [HR.out]; simp_all [mkS, catB])
theorem tbranch_any (S : ByteArray) (m : Nat) (z y : Int) (T D K : Bool) (n : Int) (w : World) :
    Calls Tryd.prog 43 #[.agg (opA S (m : Int) z y), .agg (fcA T D K n)] w fun e w' => e = .returned (.string (mkS (tmBr S.toList m K))) ∧ Below w.heap.size w w' := by
  by_cases hm : m = 12
  · subst hm
    cases K
    · exact tbr_10 S 12 z y T D n w
    · exact tbr_11 S 12 z y T D n w
  · cases K
    · exact tbr_00 S m hm z y T D n w
    · exact tbr_01 S m hm z y T D n w
end Go.Proofs.YtmbbcfdeielopaaDoorRRRR
