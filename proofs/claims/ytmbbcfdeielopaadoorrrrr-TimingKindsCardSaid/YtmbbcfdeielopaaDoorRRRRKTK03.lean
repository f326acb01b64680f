/-
  Texts of these proofs, one behind the other: Opc2, Opc3.
-/
import Derived.Test.YtmbbcfdeielopaaDoorRRRRKTK02
import Derived.Lib.Walk
namespace Go.Proofs.YtmbbcfdeielopaaDoorRRRR
open Go.RowKit
set_option linter.unusedVariables false
set_option linter.unusedSimpArgs false
set_option maxRecDepth 100000
theorem mkS_toList (l : List UInt8) : (mkS l).toList = l := by rw [ByteArray.toList_eq]; simp [mkS]
theorem mkS_of (s : ByteArray) : mkS s.toList = s := by rw [ByteArray.toList_eq]; rfl
theorem take_size (s : ByteArray) : s.toList.length = s.size := by rw [ByteArray.toList_eq]; rfl
theorem ext_toList (s : ByteArray) (a b : Nat) : (s.extract a b).toList = (s.toList.drop a).take (b - a) := by
  conv => lhs; rw [← mkS_of s, mkS_ext, mkS_toList]
set_option maxHeartbeats 4000000 in
theorem oknown_any (b : Nat) (hb : b < 256) (w : World) : Calls Tryd.prog 35 #[.int .u8 (b : Int)] w fun e w' => e = .returned (.bool (opK b)) ∧ w = w' := by
  have hA := fun W => oat_any b hb W
  obtain ⟨S, hS⟩ : ∃ S, mkS (opC b) = S := ⟨_, rfl⟩
  have hz : S.size = 6 := by rw [← hS, mkS_size, opC_len b hb]
  have hk : (!(S.extract 0 4).toList == [45, 45, 45, 45]) = opK b := by
    rw [← hS, mkS_ext, mkS_toList]
    unfold opK
    rw [List.drop_zero, Nat.sub_zero]
  have HK := Lib.hid hk
  rw [hS] at hA
  clear hk hS
  go_enter Tryd.func35, Tryd.ntmps35
  go_wp2_with fail
  refine (hA _).mono ?_
  rintro e w' ⟨rfl, rfl⟩
  go_wp2
  rw [HK.out]
  go_ret
  exact ⟨rfl, rfl⟩
/-- Do letters begin so? -/
def hpL (s p : List UInt8) : Bool := decide (p.length ≤ s.length) && (s.take p.length == p)
theorem ohasprefix_any (s p : ByteArray) (w : World) : Calls Tryd.prog 48 #[.string s, .string p] w fun e w' => e = .returned (.bool (hpL s.toList p.toList)) ∧ w = w' := by
  go_enter Tryd.func48, Tryd.ntmps48
  go_wp2
  · rename_i h
    go_ret
    refine ⟨?_, rfl⟩
    unfold hpL
    rw [take_size, take_size, decide_eq_true h, Bool.true_and, ext_toList, List.drop_zero, Nat.sub_zero]
    rfl
  · rename_i h
    go_ret
    refine ⟨?_, rfl⟩
    unfold hpL
    rw [take_size, take_size, decide_eq_false h, Bool.false_and]
    rfl
theorem opMark_fin : ∀ b : Fin 256, ∀ k : Fin 20, k.val ≤ opM b.val → hpL (opMarks.drop (2 * k.val)) ((opC b.val).drop 4) = decide (k.val = opM b.val) := by decide +kernel
theorem opM_fin : ∀ b : Fin 256, opM b.val < 20 := by decide +kernel
set_option maxHeartbeats 4000000 in
theorem omarked_any (b : Nat) (hb : b < 256) (w : World) : Calls Tryd.prog 32 #[.string (mkS ((opC b).drop 4))] w fun e w' => e = .returned (.int .u8 (opM b : Int)) ∧ w = w' := by
  have hm := opM_fin ⟨b, hb⟩
  have hf := opMark_fin ⟨b, hb⟩
  dsimp only at hm hf
  obtain ⟨m, hM⟩ : ∃ m, opM b = m := ⟨_, rfl⟩
  obtain ⟨D, hD⟩ : ∃ D, mkS ((opC b).drop 4) = D := ⟨_, rfl⟩
  rw [show (opC b).drop 4 = D.toList by rw [← hD, mkS_toList]] at hf
  rw [hM] at hm hf ⊢
  rw [hD]
  clear hD hM
  have HF := Lib.hid hf
  clear hf
  go_enter Tryd.func32, Tryd.ntmps32
  go_wp2
  go_loopw [3] (fun i wr => ∃ k : Nat, k ≤ m ∧ i = .int .u8 k ∧ w = wr) (fun i _ => 20 - (intOf i).toNat)
  case atStart => exact ⟨0, by omega, rfl, rfl⟩
  case round =>
    obtain ⟨k, hk, rfl, rfl⟩ := hrel
    have hp := fun W => ohasprefix_any (mkS (opMarks.drop (2 * k))) D W
    rw [mkS_toList, HF.out ⟨k, by omega⟩ hk] at hp
    dsimp only at hp
    obtain ⟨X, hX⟩ : ∃ X, mkS (opMarks.drop (2 * k)) = X := ⟨_, rfl⟩
    have hx : (⟨#[46, 46, 35, 35, 122, 112, 122, 120, 122, 121, 97, 98, 97, 120, 97, 121, 105, 110, 105, 120, 105, 121, 114, 101, 122, 114, 116, 122, 116, 120, 116, 97, 116, 121, 106, 105, 106, 120, 98, 108]⟩ : ByteArray).extract (2 * k) 40 = X := by
      show (mkS opMarks).extract (2 * k) 40 = X
      rw [mkS_ext, ← hX, List.take_of_length_le (by rw [List.length_drop]; show 40 - 2 * k ≤ _; omega)]
    rw [hX] at hp
    clear hX
    have k0 : (0 : Int) ≤ 2 * (k : Int) := by omega
    have k1 : 2 * (k : Int) ≤ 40 := by omega
    have k2 : (2 * (k : Int)).toNat = 2 * k := by omega
    have k3 : IntKind.i64.wrap (2 * (k : Int)) = 2 * k := IntWalk.i64_in _ (by omega)
    rcases Nat.lt_or_ge k m with hl | hl
    · rw [show decide (k = m) = false by simp; omega] at hp
      go_wp2_with fail
      refine (hp _).mono ?_
      rintro e w' ⟨rfl, rfl⟩
      go_wp2
      go_roundw
      case rel => exact ⟨k + 1, by omega, by go_num, by trivial⟩
      case measure => simp [intOf]; omega
    · obtain rfl : k = m := by omega
      rw [show decide (k = k) = true from decide_eq_true rfl] at hp
      go_wp2_with fail
      refine (hp _).mono ?_
      rintro e w' ⟨rfl, rfl⟩
      go_wp2
      go_ret
      exact ⟨rfl, rfl⟩
set_option maxHeartbeats 4000000 in
theorem obehind_any (m : Int) (w : World) : Calls Tryd.prog 34 #[.int .u8 m] w fun e w' => e = .returned (.int .i64 (bhP m)) ∧ w = w' := by
  go_enter Tryd.func34, Tryd.ntmps34
  go_wp2
  all_goals go_ret
  all_goals refine ⟨?_, rfl⟩
  all_goals simp_all [bhP]
/-- Without the blanks at its end. -/
def trimL (l : List UInt8) : List UInt8 := (l.reverse.dropWhile (· == 32)).reverse
theorem trimL_snoc (l : List UInt8) (c : UInt8) : trimL (l ++ [c]) = if c == 32 then trimL l else l ++ [c] := by
  unfold trimL
  rw [List.reverse_append]
  simp only [List.reverse_cons, List.reverse_nil, List.nil_append, List.cons_append, List.dropWhile_cons]
  cases h : (c == 32) <;> simp
theorem trimL_nil : trimL [] = [] := rfl
set_option maxHeartbeats 4000000 in
theorem otrimByte_any (l : List UInt8) (hl : l.length ≤ 1000) (w : World) : Calls Tryd.prog 63 #[.string (mkS l), .int .u8 32] w fun e w' => e = .returned (.string (mkS (trimL l))) ∧ w = w' := by
  obtain ⟨R, hR⟩ : ∃ R, mkS (trimL l) = R := ⟨_, rfl⟩
  rw [hR]
  have HR := Lib.hid hR
  clear hR
  go_enter Tryd.func63, Tryd.ntmps63
  go_wp2
  go_loopw [0] (fun s wr => ∃ q : List UInt8, s = .string (mkS q) ∧ q.length ≤ l.length ∧ trimL q = trimL l ∧ w = wr) (fun s _ => match s with | .string x => x.size | _ => 0)
  case atStart => exact ⟨l, rfl, Nat.le_refl _, rfl, rfl⟩
  case round =>
    obtain ⟨q, rfl, hq, ht, rfl⟩ := hrel
    have HT := Lib.hid ht
    clear ht
    have hz := mkS_size q
    rcases List.eq_nil_or_concat q with rfl | ⟨r, c, hcc⟩
    · obtain ⟨S, hS⟩ : ∃ S, mkS [] = S := ⟨_, rfl⟩
      have hR : S = R := by rw [← hS, ← HR.out, ← HT.out]; rfl
      rw [hS] at hz ⊢
      clear hS
      simp only [List.length_nil] at hz
      have HZ := Lib.hid hR
      clear hR
      go_wp2
      rw [HZ.out]
      go_ret
      exact ⟨rfl, rfl⟩
    · rw [List.concat_eq_append] at hcc
      subst hcc
      have hsn := trimL_snoc r c
      have hx : (mkS (r ++ [c])).extract 0 r.length = mkS r := by rw [mkS_ext, List.drop_zero, Nat.sub_zero, List.take_left]
      have hg : ∀ h, (mkS (r ++ [c])).get r.length h = c := fun h => by simp [mkS, ByteArray.get]
      have hR : trimL (r ++ [c]) = trimL l := HT.out
      rw [hsn] at hR
      rw [List.length_append, List.length_singleton] at hz hq
      obtain ⟨S, hS⟩ : ∃ S, mkS (r ++ [c]) = S := ⟨_, rfl⟩
      rw [hS] at hz hx hg ⊢
      have HS := Lib.hid hS
      have HZ := Lib.hid hR
      have HX := Lib.hid hx
      clear hsn hS hR HT hx
      have n0 : IntKind.i64.wrap ((S.size : Int) - 1) = r.length := by rw [hz]; rw [show (((r.length + 1 : Nat) : Int) - 1) = r.length by omega]; exact IntWalk.i64_in _ (by omega)
      go_wp2
      · rename_i h5
        have e5 : S[r.length] = c := hg _
        rw [e5] at h5
        have hc : (c == 32) = true := by
          have h6 : (c.toNat : Int) = 32 := by simpa using h5
          have : c.toNat = 32 := by omega
          rw [beq_iff_eq]
          exact UInt8.toNat_inj.1 this
        have hZ := HZ.out
        rw [if_pos hc] at hZ
        go_roundw
        case rel => exact ⟨r, by rw [HX.out], by omega, hZ, trivial⟩
        case measure =>
          rw [HX.out]
          show (mkS r).size < S.size
          rw [mkS_size]; omega
      · rename_i h5
        have e5 : S[r.length] = c := hg _
        rw [e5] at h5
        have hc : ¬ (c == 32) = true := by
          intro e
          rw [beq_iff_eq] at e
          rw [e] at h5
          exact absurd h5 (by decide)
        have hZ := HZ.out
        rw [if_neg hc] at hZ
        have hR : S = R := by rw [← HS.out, ← HR.out, hZ]
        subst hR
        go_ret
        exact ⟨rfl, rfl⟩
end Go.Proofs.YtmbbcfdeielopaaDoorRRRR
namespace Go.Proofs.YtmbbcfdeielopaaDoorRRRR
open Go.RowKit
set_option linter.unusedVariables false
set_option linter.unusedSimpArgs false
set_option maxRecDepth 100000
set_option maxHeartbeats 4000000 in
theorem otrim_any (l : List UInt8) (hl : l.length ≤ 1000) (w : World) : Calls Tryd.prog 36 #[.string (mkS l), .string ⟨#[32]⟩] w fun e w' => e = .returned (.string (mkS (trimL l))) ∧ w = w' := by
  have hb := fun W => otrimByte_any l hl W
  have hz := mkS_size l
  by_cases h0 : l = []
  · subst h0
    obtain ⟨S, hS⟩ : ∃ S, mkS [] = S := ⟨_, rfl⟩
    have he : S.toList.isEmpty = true := by rw [← hS, mkS_toList]; rfl
    rw [show trimL [] = [] from rfl, hS] at *
    clear hb hS
    go_enter Tryd.func36, Tryd.ntmps36
    go_wp2
    go_ret
    exact ⟨rfl, rfl⟩
  · have he : (mkS l).toList.isEmpty = false := by rw [mkS_toList]; cases l with | nil => exact absurd rfl h0 | cons a b => rfl
    obtain ⟨S, hS⟩ : ∃ S, mkS l = S := ⟨_, rfl⟩
    rw [hS] at he hb ⊢
    clear hS hz h0
    have HB := Lib.hid hb
    clear hb
    have e32 : (((⟨#[32]⟩ : ByteArray)[0]'(by decide)).toNat : Int) = 32 := by decide
    go_enter Tryd.func36, Tryd.ntmps36
    go_wp2_with fail
    refine (HB.out _).mono ?_
    rintro e w' ⟨rfl, rfl⟩
    go_wp2
    go_ret
    exact ⟨rfl, rfl⟩
def impP (l : List UInt8) : Int := if l = [80, 72, 65] ∨ l = [80, 72, 80] ∨ l = [80, 72, 88] ∨ l = [80, 72, 89] ∨ l = [83, 65, 88] ∨ l = [83, 65, 89] ∨ l = [83, 88, 89] ∨ l = [67, 83, 76] ∨ l = [67, 83, 72] then 3 else if l = [80, 76, 65] ∨ l = [80, 76, 80] ∨ l = [80, 76, 88] ∨ l = [80, 76, 89] then 4 else if l = [82, 84, 83] ∨ l = [82, 84, 73] then 7 else 2
def immP (l : List UInt8) : Int := if l = [66, 82, 75] then 8 else if l = [84, 65, 77] then 5 else if l = [84, 77, 65] ∨ l = [83, 84, 48] ∨ l = [83, 84, 49] ∨ l = [83, 84, 50] then 4 else 2
def chgP (l : List UInt8) : Bool := decide (l = [65, 83, 76] ∨ l = [76, 83, 82] ∨ l = [82, 79, 76] ∨ l = [82, 79, 82] ∨ l = [73, 78, 67] ∨ l = [68, 69, 67] ∨ l = [84, 83, 66] ∨ l = [84, 82, 66])
def zerP (l : List UInt8) : Int := if hpL l [82, 77, 66] = true then 7 else if hpL l [83, 77, 66] = true then 7 else if chgP l = true then 6 else 4
def absP (l : List UInt8) : Int := if chgP l = true then 7 else if l = [74, 83, 82] then 7 else if l = [74, 77, 80] then 4 else 5
def relP (l : List UInt8) : Int := if l = [66, 82, 65] then 4 else if l = [66, 83, 82] then 8 else 2
def cycP (l : List UInt8) (m : Int) : Int := if m = 0 then impP l else if m = 1 then immP l else if m = 2 ∨ m = 3 ∨ m = 4 then zerP l else if m = 5 ∨ m = 6 ∨ m = 7 then absP l else if m = 11 then relP l else if m = 12 then 6 else if m = 15 ∨ m = 16 then 8 else if m = 19 then 17 else 7
set_option maxHeartbeats 4000000 in
theorem oimplied_any (s : ByteArray) (w : World) : Calls Tryd.prog 67 #[.string s] w fun e w' => e = .returned (.int .i64 (impP s.toList)) ∧ w = w' := by
  go_enter Tryd.func67, Tryd.ntmps67
  go_wp2
  all_goals go_ret
  all_goals refine ⟨?_, rfl⟩
  all_goals simp_all [impP]
set_option maxHeartbeats 4000000 in
theorem oimmediate_any (s : ByteArray) (w : World) : Calls Tryd.prog 68 #[.string s] w fun e w' => e = .returned (.int .i64 (immP s.toList)) ∧ w = w' := by
  go_enter Tryd.func68, Tryd.ntmps68
  go_wp2
  all_goals go_ret
  all_goals refine ⟨?_, rfl⟩
  all_goals simp_all [immP]
set_option maxHeartbeats 4000000 in
theorem orelative_any (s : ByteArray) (w : World) : Calls Tryd.prog 71 #[.string s] w fun e w' => e = .returned (.int .i64 (relP s.toList)) ∧ w = w' := by
  go_enter Tryd.func71, Tryd.ntmps71
  go_wp2
  all_goals go_ret
  all_goals refine ⟨?_, rfl⟩
  all_goals simp_all [relP]
set_option maxHeartbeats 4000000 in
theorem ochanges_any (s : ByteArray) (w : World) : Calls Tryd.prog 83 #[.string s] w fun e w' => e = .returned (.bool (chgP s.toList)) ∧ w = w' := by
  go_enter Tryd.func83, Tryd.ntmps83
  go_wp2
  all_goals go_ret
  all_goals refine ⟨?_, rfl⟩
  all_goals simp_all [chgP]
set_option maxHeartbeats 4000000 in
theorem ozero_any (s : ByteArray) (w : World) : Calls Tryd.prog 69 #[.string s] w fun e w' => e = .returned (.int .i64 (zerP s.toList)) ∧ w = w' := by
  have h1 := fun W => ohasprefix_any s ⟨#[82, 77, 66]⟩ W
  have h2 := fun W => ohasprefix_any s ⟨#[83, 77, 66]⟩ W
  have h3 := fun W => ochanges_any s W
  have ez : zerP s.toList = if hpL s.toList [82, 77, 66] = true then 7 else if hpL s.toList [83, 77, 66] = true then 7 else if chgP s.toList = true then 6 else 4 := rfl
  rw [show (⟨#[82, 77, 66]⟩ : ByteArray).toList = [82, 77, 66] from mkS_toList [82, 77, 66]] at h1
  rw [show (⟨#[83, 77, 66]⟩ : ByteArray).toList = [83, 77, 66] from mkS_toList [83, 77, 66]] at h2
  generalize hpL s.toList [82, 77, 66] = x1 at *
  generalize hpL s.toList [83, 77, 66] = x2 at *
  generalize chgP s.toList = x3 at *
  rw [ez]
  clear ez
  go_enter Tryd.func69, Tryd.ntmps69
  cases x1 <;> cases x2 <;> cases x3
  all_goals
    go_wp2_with (first
      | (go_at_call 48; refine (h1 _).mono ?_; clear h1; rintro e w' ⟨rfl, rfl⟩)
      | (go_at_call 48; refine (h2 _).mono ?_; rintro e w' ⟨rfl, rfl⟩)
      | (go_at_call 83; refine (h3 _).mono ?_; rintro e w' ⟨rfl, rfl⟩))
    go_ret
    exact ⟨rfl, rfl⟩
set_option maxHeartbeats 4000000 in
theorem oabsolute_any (s : ByteArray) (w : World) : Calls Tryd.prog 70 #[.string s] w fun e w' => e = .returned (.int .i64 (absP s.toList)) ∧ w = w' := by
  have h3 := fun W => ochanges_any s W
  have ez : absP s.toList = if chgP s.toList = true then 7 else if s.toList = [74, 83, 82] then 7 else if s.toList = [74, 77, 80] then 4 else 5 := rfl
  generalize chgP s.toList = x3 at *
  rw [ez]
  clear ez
  go_enter Tryd.func70, Tryd.ntmps70
  cases x3
  all_goals go_wp2_with (go_at_call 83; refine (h3 _).mono ?_; rintro e w' ⟨rfl, rfl⟩)
  all_goals go_ret
  all_goals refine ⟨?_, rfl⟩
  all_goals simp_all
set_option maxHeartbeats 4000000 in
theorem ocycles_any (s : ByteArray) (m : Int) (w : World) : Calls Tryd.prog 37 #[.string s, .int .u8 m] w fun e w' => e = .returned (.int .i64 (cycP s.toList m)) ∧ w = w' := by
  go_enter Tryd.func37, Tryd.ntmps37
  go_wp2_with (first
    | (go_at_call 67; refine (oimplied_any _ _).mono ?_; rintro e w' ⟨rfl, rfl⟩)
    | (go_at_call 68; refine (oimmediate_any _ _).mono ?_; rintro e w' ⟨rfl, rfl⟩)
    | (go_at_call 69; refine (ozero_any _ _).mono ?_; rintro e w' ⟨rfl, rfl⟩)
    | (go_at_call 70; refine (oabsolute_any _ _).mono ?_; rintro e w' ⟨rfl, rfl⟩)
    | (go_at_call 71; refine (orelative_any _ _).mono ?_; rintro e w' ⟨rfl, rfl⟩))
  all_goals go_ret
  all_goals refine ⟨?_, rfl⟩
  all_goals simp_all [cycP]
end Go.Proofs.YtmbbcfdeielopaaDoorRRRR
