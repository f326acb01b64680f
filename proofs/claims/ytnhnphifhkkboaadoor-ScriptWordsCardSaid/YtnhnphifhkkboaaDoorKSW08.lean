/-
  Texts of these proofs, one behind the other: Scr1, B1, M5.
-/
import Derived.Test.YtnhnphifhkkboaaDoorKSW05
import Derived.Test.YtnhnphifhkkboaaDoorKSW07
namespace Go.Proofs.YtnhnphifhkkboaaDoor
open Go.RowKit
set_option linter.unusedVariables false
set_option linter.unusedSimpArgs false
set_option maxRecDepth 100000
def decL (l : List UInt8) : Int := l.foldl (fun n c => 10 * n + ((c.toNat : Int) - 48)) 0
theorem decL_snoc (l : List UInt8) (c : UInt8) : decL (l ++ [c]) = 10 * decL l + ((c.toNat : Int) - 48) := by simp [decL]
def digB (c : UInt8) : Bool := decide (48 ≤ c.toNat ∧ c.toNat ≤ 57)
def allD (l : List UInt8) : Bool := l.all digB
theorem allD_snoc (l : List UInt8) (c : UInt8) : allD (l ++ [c]) = (allD l && digB c) := by simp [allD]
theorem allD_not (l : List UInt8) (k : Nat) (hk : k < l.length) (h : digB l[k] = false) : allD l = false := by
  unfold allD; rw [List.all_eq_false]; exact ⟨l[k], by simp, by simp [h]⟩
theorem decL_bd (l : List UInt8) (h : allD l = true) : 0 ≤ decL l ∧ decL l < 10 ^ l.length := by
  suffices H : ∀ r : List UInt8, allD r.reverse = true → 0 ≤ decL r.reverse ∧ decL r.reverse < 10 ^ r.length by
    have := H l.reverse (by simpa using h); simpa using this
  intro r
  induction r with
  | nil => intro _; simp [decL]
  | cons c r ih =>
    intro hr
    rw [List.reverse_cons, allD_snoc, Bool.and_eq_true] at hr
    have := ih hr.1
    rw [List.reverse_cons, decL_snoc, List.length_cons, Int.pow_succ]
    have := hr.2
    unfold digB at this
    simp only [decide_eq_true_eq] at this
    omega
theorem decL_le17 (l : List UInt8) (h : allD l = true) (hk : l.length < 18) : 0 ≤ decL l ∧ decL l ≤ 99999999999999999 := by
  have := decL_bd l h
  refine ⟨this.1, ?_⟩
  have h3 : (10 : Int) ^ l.length ≤ 10 ^ 17 := by
    have := Nat.pow_le_pow_right (n := 10) (by decide) (show l.length ≤ 17 by omega)
    exact_mod_cast this
  have h4 : (10 : Int) ^ 17 = 100000000000000000 := by decide
  omega
/-- A number, and its error. -/
def numP (s : ByteArray) : Int × Int :=
  if s.size = 0 then (0, 4) else if 18 < s.size then (0, 2) else if 1 < s.size ∧ s.get! 0 = 48 then (0, 3) else if allD s.data.toList then (decL s.data.toList, 0) else (0, 3)
theorem getB (s : ByteArray) (k : Nat) (h : k < s.size) : s.get! k = s[k] := by
  show s.data[k]! = s.data[k]
  rw [getElem!_pos s.data k h]
theorem numP_no (s : ByteArray) (k : Nat) (hk : k < s.size) (h18 : s.size ≤ 18) (h : digB s[k] = false) : numP s = (0, 3) := by
  unfold numP
  rw [if_neg (by omega), if_neg (by omega)]
  split
  · rfl
  · rw [if_neg]
    have := allD_not s.data.toList k (by simpa using hk) h
    rw [this]; decide
set_option maxHeartbeats 4000000 in
theorem scnumber_any (s : ByteArray) (w : World) (hm : s.size ≤ maxLen) : Calls Tryd.prog 22 #[.string s] w fun e w' => e = .returned (.tuple #[.int .i64 (numP s).1, .int .i64 (numP s).2]) ∧ w' = w := by
  unfold maxLen at hm
  by_cases h0 : s.size = 0
  · have h1 : ((s.size : Int) == 0) = true := by simp [h0]
    have HR : Hid (numP s = (0, 4)) := Lib.hid (by unfold numP; rw [if_pos h0])
    go_enter Tryd.func22, Tryd.ntmps22
    go_wp2_with fail
    go_ret2
    exact ⟨by rw [HR.out]; rfl, rfl⟩
  · have h1 : ((s.size : Int) == 0) = false := beq_eq_false_iff_ne.2 (by omega)
    by_cases h18 : 18 < s.size
    · have HR : Hid (numP s = (0, 2)) := Lib.hid (by unfold numP; rw [if_neg h0, if_pos h18])
      go_enter Tryd.func22, Tryd.ntmps22
      go_wp2_with fail
      go_ret2
      exact ⟨by rw [HR.out]; rfl, rfl⟩
    · have hz : 0 < s.size := by omega
      by_cases hf : 1 < s.size ∧ s.get! 0 = 48
      · have HR : Hid (numP s = (0, 3)) := Lib.hid (by unfold numP; rw [if_neg h0, if_neg h18, if_pos hf])
        have e0 : ((s[0].toNat : Int) == 48) = true := by
          have := hf.2; rw [getB s 0 hz] at this; rw [this]; rfl
        have hl1 := hf.1
        clear hf
        go_enter Tryd.func22, Tryd.ntmps22
        go_wp2_with fail
        go_ret2
        exact ⟨by rw [HR.out]; rfl, rfl⟩
      · have HR : Hid (numP s = if allD s.data.toList then (decL s.data.toList, 0) else (0, 3)) := Lib.hid (by unfold numP; rw [if_neg h0, if_neg h18, if_neg hf])
        have hl : (1 < s.size ∧ ((s[0].toNat : Int) == 48) = false) ∨ s.size = 1 := by
          by_cases hl1 : 1 < s.size
          · refine Or.inl ⟨hl1, ?_⟩
            have : ¬ s[0] = 48 := fun e => hf ⟨hl1, by rw [getB s 0 hz]; exact e⟩
            rw [beq_eq_false_iff_ne]; intro e; exact this (UInt8.toNat_inj.1 (by simpa using (by exact_mod_cast e : s[0].toNat = 48)))
          · exact Or.inr (by omega)
        clear hf
        rcases hl with ⟨hl1, e0⟩ | hl1
        all_goals (
          go_enter Tryd.func22, Tryd.ntmps22
          go_wp2_with fail
          go_loopw [4, 25] (fun n i wr => ∃ k : Nat, k ≤ s.size ∧ i = .int .i64 k ∧ n = .int .i64 (decL (s.data.toList.take k)) ∧ allD (s.data.toList.take k) = true ∧ wr = w) (fun _ i _ => s.size - (intOf i).toNat)
          case atStart => exact ⟨0, by omega, rfl, rfl, rfl, rfl⟩
          case round =>
            obtain ⟨k, hk, rfl, rfl, ha, rfl⟩ := hrel
            by_cases hlt : k < s.size
            · have hnb := decL_le17 (s.data.toList.take k) ha (by have := List.length_take_le k s.data.toList; omega)
              by_cases hv : digB s[k] = true
              · have H1 : Hid (decL (s.data.toList.take (k + 1)) = 10 * decL (s.data.toList.take k) + ((s[k].toNat : Int) - 48)) := by
                  show _ = _; rw [take_snoc s k hlt, decL_snoc]
                have H2 : Hid (allD (s.data.toList.take (k + 1)) = true) := by show _ = _; rw [take_snoc s k hlt, allD_snoc, ha, hv]; rfl
                unfold digB at hv
                simp only [decide_eq_true_eq] at hv
                have d1 : (48 : Int) ≤ s[k].toNat := by omega
                have d2 : (s[k].toNat : Int) ≤ 57 := by omega
                clear ha hv
                go_wp2_with fail
                go_roundw
                case rel => exact ⟨k + 1, by omega, by go_num, by rw [H1.out], H2.out, by first | trivial | rfl⟩
                case measure => simp [intOf]; omega
              · have hv : digB s[k] = false := by simpa using hv
                have H1 := Lib.hid (numP_no s k hlt (by omega) hv)
                unfold digB at hv
                simp only [decide_eq_false_iff_not] at hv
                clear ha
                by_cases hlo : s[k].toNat < 48
                · have d1 : (s[k].toNat : Int) < 48 := by omega
                  clear hv
                  go_wp2_with fail
                  go_ret2
                  exact ⟨by rw [H1.out]; rfl, rfl⟩
                · have d1 : ¬ (s[k].toNat : Int) < 48 := by omega
                  have d2 : (57 : Int) < s[k].toNat := by omega
                  clear hv
                  go_wp2_with fail
                  go_ret2
                  exact ⟨by rw [H1.out]; rfl, rfl⟩
            · obtain rfl : k = s.size := by omega
              have e : s.data.toList.take s.size = s.data.toList := List.take_of_length_le (by simp)
              have H1 : Hid (numP s = (decL (s.data.toList.take s.size), 0)) := by show _ = _; rw [HR.out]; rw [e] at ha ⊢; rw [if_pos ha]
              clear e ha
              go_wp2_with fail
              go_ret2
              exact ⟨by rw [H1.out]; rfl, rfl⟩)
end Go.Proofs.YtnhnphifhkkboaaDoor
namespace Go.Proofs.YtnhnphifhkkboaaDoor
open Go.RowKit
theorem hexL_cons (k : Nat) : ∀ n : Int, hexL n (k + 1) = digI (n / 16 ^ k % 16).toNat :: hexL n k := by
  induction k with
  | zero => intro n; simp [hexL]
  | succ k ih =>
    intro n
    rw [show hexL n (k + 1 + 1) = hexL (n / 16) (k + 1) ++ [digI (n % 16).toNat] from rfl, ih, Int.ediv_ediv_of_nonneg (by decide), show (16 : Int) * 16 ^ k = 16 ^ (k + 1) by rw [Int.pow_succ]; omega]
    rfl
theorem strOf_cons (a : Int) (xs : List Int) : strOfNums [a] ++ strOfNums xs = strOfNums (a :: xs) := by
  apply ByteArray.ext
  simp [strOfNums]
theorem DIG_cut (m : Int) (h0 : 0 ≤ m) (h1 : m < 16) (w : World) : (Instr.slice 9 (.string DIG) (some (.int .i64 m)) (some (.int .i64 (m + 1))) none).run Tryd.prog w = .ok (.string (strOfNums [digI m.toNat])) w := by
  have c0 : ∀ w, (Instr.slice 9 (.string DIG) (some (.int .i64 0)) (some (.int .i64 1)) none).run Tryd.prog w = .ok (.string (strOfNums [digI 0])) w := fun _ => by kernel_rfl
  have c1 : ∀ w, (Instr.slice 9 (.string DIG) (some (.int .i64 1)) (some (.int .i64 2)) none).run Tryd.prog w = .ok (.string (strOfNums [digI 1])) w := fun _ => by kernel_rfl
  have c2 : ∀ w, (Instr.slice 9 (.string DIG) (some (.int .i64 2)) (some (.int .i64 3)) none).run Tryd.prog w = .ok (.string (strOfNums [digI 2])) w := fun _ => by kernel_rfl
  have c3 : ∀ w, (Instr.slice 9 (.string DIG) (some (.int .i64 3)) (some (.int .i64 4)) none).run Tryd.prog w = .ok (.string (strOfNums [digI 3])) w := fun _ => by kernel_rfl
  have c4 : ∀ w, (Instr.slice 9 (.string DIG) (some (.int .i64 4)) (some (.int .i64 5)) none).run Tryd.prog w = .ok (.string (strOfNums [digI 4])) w := fun _ => by kernel_rfl
  have c5 : ∀ w, (Instr.slice 9 (.string DIG) (some (.int .i64 5)) (some (.int .i64 6)) none).run Tryd.prog w = .ok (.string (strOfNums [digI 5])) w := fun _ => by kernel_rfl
  have c6 : ∀ w, (Instr.slice 9 (.string DIG) (some (.int .i64 6)) (some (.int .i64 7)) none).run Tryd.prog w = .ok (.string (strOfNums [digI 6])) w := fun _ => by kernel_rfl
  have c7 : ∀ w, (Instr.slice 9 (.string DIG) (some (.int .i64 7)) (some (.int .i64 8)) none).run Tryd.prog w = .ok (.string (strOfNums [digI 7])) w := fun _ => by kernel_rfl
  have c8 : ∀ w, (Instr.slice 9 (.string DIG) (some (.int .i64 8)) (some (.int .i64 9)) none).run Tryd.prog w = .ok (.string (strOfNums [digI 8])) w := fun _ => by kernel_rfl
  have c9 : ∀ w, (Instr.slice 9 (.string DIG) (some (.int .i64 9)) (some (.int .i64 10)) none).run Tryd.prog w = .ok (.string (strOfNums [digI 9])) w := fun _ => by kernel_rfl
  have c10 : ∀ w, (Instr.slice 9 (.string DIG) (some (.int .i64 10)) (some (.int .i64 11)) none).run Tryd.prog w = .ok (.string (strOfNums [digI 10])) w := fun _ => by kernel_rfl
  have c11 : ∀ w, (Instr.slice 9 (.string DIG) (some (.int .i64 11)) (some (.int .i64 12)) none).run Tryd.prog w = .ok (.string (strOfNums [digI 11])) w := fun _ => by kernel_rfl
  have c12 : ∀ w, (Instr.slice 9 (.string DIG) (some (.int .i64 12)) (some (.int .i64 13)) none).run Tryd.prog w = .ok (.string (strOfNums [digI 12])) w := fun _ => by kernel_rfl
  have c13 : ∀ w, (Instr.slice 9 (.string DIG) (some (.int .i64 13)) (some (.int .i64 14)) none).run Tryd.prog w = .ok (.string (strOfNums [digI 13])) w := fun _ => by kernel_rfl
  have c14 : ∀ w, (Instr.slice 9 (.string DIG) (some (.int .i64 14)) (some (.int .i64 15)) none).run Tryd.prog w = .ok (.string (strOfNums [digI 14])) w := fun _ => by kernel_rfl
  have c15 : ∀ w, (Instr.slice 9 (.string DIG) (some (.int .i64 15)) (some (.int .i64 16)) none).run Tryd.prog w = .ok (.string (strOfNums [digI 15])) w := fun _ => by kernel_rfl
  have : m = 0 ∨ m = 1 ∨ m = 2 ∨ m = 3 ∨ m = 4 ∨ m = 5 ∨ m = 6 ∨ m = 7 ∨ m = 8 ∨ m = 9 ∨ m = 10 ∨ m = 11 ∨ m = 12 ∨ m = 13 ∨ m = 14 ∨ m = 15 := by omega
  rcases this with rfl | rfl | rfl | rfl | rfl | rfl | rfl | rfl | rfl | rfl | rfl | rfl | rfl | rfl | rfl | rfl
  · exact c0 w
  · exact c1 w
  · exact c2 w
  · exact c3 w
  · exact c4 w
  · exact c5 w
  · exact c6 w
  · exact c7 w
  · exact c8 w
  · exact c9 w
  · exact c10 w
  · exact c11 w
  · exact c12 w
  · exact c13 w
  · exact c14 w
  · exact c15 w
theorem hexL_len (k : Nat) : ∀ n, (hexL n k).length = k := by
  induction k with
  | zero => intro n; rfl
  | succ k ih => intro n; simp [hexL, ih]
theorem strOf_size (xs : List Int) : (strOfNums xs).size = xs.length := by show (strOfNums xs).data.size = _; simp [strOfNums]
theorem div_bd (n : Int) (j : Nat) (h0 : 0 ≤ n) (h1 : n ≤ 4294967295) : 0 ≤ n / 16 ^ j ∧ n / 16 ^ j ≤ 4294967295 := by
  have hp : (0 : Int) < 16 ^ j := Int.pow_pos (by decide)
  refine ⟨Int.ediv_nonneg h0 (by omega), ?_⟩
  have := Int.ediv_le_self (16 ^ j) h0
  omega
set_option maxHeartbeats 1000000 in
theorem rhex_k (n k : Int) (w : World) (h0 : 0 ≤ n) (h1 : n ≤ 4294967295) (hk1 : 1 ≤ k) (hk8 : k ≤ 8) :
    Calls Tryd.prog 79 #[.int .u32 n, .int .i64 k] w fun e w' => e = .returned (.string (strOfNums (hexL n k.toNat))) ∧ w = w' := by
  go_enter Tryd.func79, Tryd.ntmps79
  go_wp2_with fail
  go_loop [0, 5, 6] (fun m s i => ∃ j : Nat, j ≤ k ∧ i = .int .i64 j ∧ m = .int .u32 (n / 16 ^ j) ∧ s = .string (strOfNums (hexL n j))) (fun _ _ i => k.toNat - (intOf i).toNat)
  case atStart => exact ⟨0, by omega, rfl, by simp, rfl⟩
  case round =>
    obtain ⟨j, hj, rfl, rfl, rfl⟩ := hrel
    by_cases hlt : (j : Int) < k
    · have hm : Hid (n / 16 ^ (j + 1) = n / 16 ^ j / 16) := by show _ = _; rw [Int.ediv_ediv_of_nonneg (by exact_mod_cast Nat.zero_le _)]; rfl
      have hs := Lib.hid (hexL_cons j n)
      have hm0 := div_bd n j h0 h1
      have h5 : (strOfNums [digI (n / 16 ^ j % 16).toNat]).size ≤ 1 := by rw [strOf_size]; simp
      have h6 : (strOfNums (hexL n j)).size ≤ 8 := by rw [strOf_size, hexL_len]; omega
      have hx := DIG_cut (n / 16 ^ j % 16) (by omega) (by omega)
      generalize n / 16 ^ j = m at *
      go_wp2_with (go_at_call 117; refine (digits_any' _).mono ?_; rintro e w' ⟨rfl, rfl⟩)
      go_round
      case rel => exact ⟨j + 1, by omega, by go_num, by rw [hm.out], by rw [hs.out, strOf_cons]⟩
      case measure => simp [intOf]; omega
    · obtain rfl : k = j := by omega
      go_wp2_with fail
      go_ret
      exact ⟨rfl, rfl⟩
set_option maxHeartbeats 1000000 in
theorem rhex_lo (n d : Int) (w : World) (h0 : 0 ≤ n) (h1 : n ≤ 4294967295) (hd : d < 1) :
    Calls Tryd.prog 79 #[.int .u32 n, .int .i64 d] w fun e w' => e = .returned (.string (strOfNums (hexL n 1))) ∧ w = w' := by
  go_enter Tryd.func79, Tryd.ntmps79
  go_wp2_with fail
  go_loop [0, 5, 6] (fun m s i => ∃ j : Nat, j ≤ 1 ∧ i = .int .i64 j ∧ m = .int .u32 (n / 16 ^ j) ∧ s = .string (strOfNums (hexL n j))) (fun _ _ i => 1 - (intOf i).toNat)
  case atStart => exact ⟨0, by omega, rfl, by simp, rfl⟩
  case round =>
    obtain ⟨j, hj, rfl, rfl, rfl⟩ := hrel
    by_cases hlt : j < 1
    · have hm : Hid (n / 16 ^ (j + 1) = n / 16 ^ j / 16) := by show _ = _; rw [Int.ediv_ediv_of_nonneg (by exact_mod_cast Nat.zero_le _)]; rfl
      have hs := Lib.hid (hexL_cons j n)
      have hm0 := div_bd n j h0 h1
      have h5 : (strOfNums [digI (n / 16 ^ j % 16).toNat]).size ≤ 1 := by rw [strOf_size]; simp
      have h6 : (strOfNums (hexL n j)).size ≤ 8 := by rw [strOf_size, hexL_len]; omega
      have hx := DIG_cut (n / 16 ^ j % 16) (by omega) (by omega)
      generalize n / 16 ^ j = m at *
      go_wp2_with (go_at_call 117; refine (digits_any' _).mono ?_; rintro e w' ⟨rfl, rfl⟩)
      go_round
      case rel => exact ⟨j + 1, by omega, by go_num, by rw [hm.out], by rw [hs.out, strOf_cons]⟩
      case measure => simp [intOf]; omega
    · obtain rfl : j = 1 := by omega
      go_wp2_with fail
      go_ret
      exact ⟨rfl, rfl⟩
set_option maxHeartbeats 1000000 in
theorem rhex_hi (n d : Int) (w : World) (h0 : 0 ≤ n) (h1 : n ≤ 4294967295) (hd : 8 < d) :
    Calls Tryd.prog 79 #[.int .u32 n, .int .i64 d] w fun e w' => e = .returned (.string (strOfNums (hexL n 8))) ∧ w = w' := by
  go_enter Tryd.func79, Tryd.ntmps79
  go_wp2_with fail
  go_loop [0, 5, 6] (fun m s i => ∃ j : Nat, j ≤ 8 ∧ i = .int .i64 j ∧ m = .int .u32 (n / 16 ^ j) ∧ s = .string (strOfNums (hexL n j))) (fun _ _ i => 8 - (intOf i).toNat)
  case atStart => exact ⟨0, by omega, rfl, by simp, rfl⟩
  case round =>
    obtain ⟨j, hj, rfl, rfl, rfl⟩ := hrel
    by_cases hlt : j < 8
    · have hm : Hid (n / 16 ^ (j + 1) = n / 16 ^ j / 16) := by show _ = _; rw [Int.ediv_ediv_of_nonneg (by exact_mod_cast Nat.zero_le _)]; rfl
      have hs := Lib.hid (hexL_cons j n)
      have hm0 := div_bd n j h0 h1
      have h5 : (strOfNums [digI (n / 16 ^ j % 16).toNat]).size ≤ 1 := by rw [strOf_size]; simp
      have h6 : (strOfNums (hexL n j)).size ≤ 8 := by rw [strOf_size, hexL_len]; omega
      have hx := DIG_cut (n / 16 ^ j % 16) (by omega) (by omega)
      generalize n / 16 ^ j = m at *
      go_wp2_with (go_at_call 117; refine (digits_any' _).mono ?_; rintro e w' ⟨rfl, rfl⟩)
      go_round
      case rel => exact ⟨j + 1, by omega, by go_num, by rw [hm.out], by rw [hs.out, strOf_cons]⟩
      case measure => simp [intOf]; omega
    · obtain rfl : j = 8 := by omega
      go_wp2_with fail
      go_ret
      exact ⟨rfl, rfl⟩
theorem rhex_any (n d : Int) (w : World) (h0 : 0 ≤ n) (h1 : n ≤ 4294967295) :
    Calls Tryd.prog 79 #[.int .u32 n, .int .i64 d] w fun e w' => e = .returned (.string (strOfNums (hexL n (held8 d)))) ∧ w = w' := by
  by_cases a : d < 1
  · have : held8 d = 1 := by unfold held8; rw [if_pos a]
    rw [this]; exact rhex_lo n d w h0 h1 a
  · by_cases b : 8 < d
    · have : held8 d = 8 := by unfold held8; rw [if_neg a, if_pos b]
      rw [this]; exact rhex_hi n d w h0 h1 b
    · have : held8 d = d.toNat := by unfold held8; rw [if_neg a, if_neg b]
      rw [this]; exact rhex_k n d w h0 h1 (by omega) (by omega)
end Go.Proofs.YtnhnphifhkkboaaDoor
namespace Go.Proofs.YtnhnphifhkkboaaDoor
open Go.RowKit
set_option linter.unusedVariables false
set_option maxRecDepth 100000
theorem m_val : ∀ d : Nat, d < 16 → valI (UInt8.ofNat (digI d).toNat).toNat = d ∧ valB (UInt8.ofNat (digI d).toNat).toNat = true := by decide +kernel
theorem strOf_list (xs : List Int) : (strOfNums xs).data.toList = xs.map fun n => UInt8.ofNat n.toNat := by simp [strOfNums]
theorem num_hexL (k : Nat) : ∀ n : Int, 0 ≤ n → numL ((hexL n k).map fun n => UInt8.ofNat n.toNat) = n % 16 ^ k ∧ allV ((hexL n k).map fun n => UInt8.ofNat n.toNat) = true := by
  induction k with
  | zero => intro n h; simp [hexL, numL, allV]
  | succ k ih =>
    intro n h
    have hd := m_val (n % 16).toNat (by omega)
    have := ih (n / 16) (by omega)
    rw [hexL, List.map_append, List.map_singleton, numL_snoc, allV_snoc, this.1, this.2, hd.1, hd.2]
    refine ⟨?_, rfl⟩
    obtain ⟨m, rfl⟩ := Int.eq_ofNat_of_zero_le h
    have h1 := Nat.mod_mul (x := m) (a := 16) (b := 16 ^ k)
    rw [show (16 : Nat) * 16 ^ k = 16 ^ (k + 1) by rw [Nat.pow_succ]; omega] at h1
    have h2 : ((m : Int) % 16 ^ (k + 1)) = ((m % 16 ^ (k + 1) : Nat) : Int) := by simp
    have h3 : ((m : Int) / 16 % 16 ^ k) = ((m / 16 % 16 ^ k : Nat) : Int) := by simp
    rw [h2, h3, h1]
    omega
def fhA (s : ByteArray) : Int × Int := if s.size = 0 then (0, 4) else if 8 < s.size then (0, 2) else fhR s
theorem fromhex_any (s : ByteArray) (w : World) (hm : s.size ≤ maxLen) :
    Calls Tryd.prog 74 #[.string s] w fun e w' => e = .returned (.tuple #[.int .u32 (fhA s).1, .int .i64 (fhA s).2]) ∧ Below w.heap.size w w' := by
  unfold fhA
  by_cases h0 : s.size = 0
  · rw [if_pos h0]; exact fromhex_short s w h0
  · by_cases h8 : 8 < s.size
    · rw [if_neg h0, if_pos h8]; exact fromhex_long s w h8 hm
    · rw [if_neg h0, if_neg h8]; exact fromhex_mid s w (by omega) (by omega)
theorem rfromhex_any (s : ByteArray) (w : World) (hm : s.size ≤ maxLen) :
    Calls Tryd.prog 77 #[.string s] w fun e w' => e = .returned (.tuple #[.int .u32 (fhA s).1, .int .i64 (fhA s).2]) ∧ Below w.heap.size w w' := by
  unfold fhA
  by_cases h0 : s.size = 0
  · rw [if_pos h0]; exact rfromhex_short s w h0
  · by_cases h8 : 8 < s.size
    · rw [if_neg h0, if_pos h8]; exact rfromhex_long s w h8 hm
    · rw [if_neg h0, if_neg h8]; exact rfromhex_mid s w (by omega) (by omega)
theorem fh_hex (n : Int) (h0 : 0 ≤ n) (h1 : n ≤ 4294967295) : fhA (strOfNums (hexL n 8)) = (n, 0) := by
  have hs : (strOfNums (hexL n 8)).size = 8 := by rw [strOf_size, hexL_len]
  unfold fhA
  rw [if_neg (by omega), if_neg (by omega)]
  have := num_hexL 8 n h0
  unfold fhR
  rw [strOf_list, this.1, this.2, if_pos rfl, show (16 : Int) ^ 8 = 4294967296 by decide, Int.emod_eq_of_lt h0 (by omega)]
end Go.Proofs.YtnhnphifhkkboaaDoor
