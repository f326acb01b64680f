/-
  Texts of these proofs, one behind the other: Phys1, Phys2.
-/
import Derived.Test.YtngfmofjonleeaaGreatKEA07
import Derived.Test.YtngfmofjonleeaaGreatKEA03
import Derived.Test.YtngfmofjonleeaaGreatKEA10
import Derived.Laws.Tables
import Derived.Deep.WholeRow
namespace Go.Proofs.YtngfmofjonleeaaGreat
open Go.RowKit
set_option linter.unusedVariables false
def bankI (a : Int) : Int := a % 2097152 / 8192
def offI (a : Int) : Int := a % 8192
set_option maxHeartbeats 400000 in
theorem addr_any (b o : Int) (w : World) (b0 : 0 ≤ b) (b1 : b ≤ 255) (o0 : 0 ≤ o) (o1 : o ≤ 65535) :
    Calls Tryz.prog 62 #[.int .u8 b, .int .u16 o] w fun e w' => e = .returned (.int .u32 (b * 8192 + o % 8192)) ∧ w = w' := by
  go_enter Tryz.func62, Tryz.ntmps62
  go_wp2
  go_ret
  exact ⟨rfl, rfl⟩
set_option maxHeartbeats 400000 in
theorem bank_any (a : Int) (w : World) (a0 : 0 ≤ a) (a1 : a ≤ 4294967295) :
    Calls Tryz.prog 99 #[.int .u32 a] w fun e w' => e = .returned (.int .u8 (bankI a)) ∧ w = w' := by
  have h : IntKind.u8.wrap (a % 2097152 / 8192) = a % 2097152 / 8192 := IntWalk.u8_in _ (by omega)
  unfold bankI
  go_enter Tryz.func99, Tryz.ntmps99
  go_wp2
  go_ret
  exact ⟨rfl, rfl⟩
set_option maxHeartbeats 400000 in
theorem off_any (a : Int) (w : World) (a0 : 0 ≤ a) (a1 : a ≤ 4294967295) :
    Calls Tryz.prog 101 #[.int .u32 a] w fun e w' => e = .returned (.int .u16 (offI a)) ∧ w = w' := by
  have h : IntKind.u16.wrap (a % 8192) = a % 8192 := IntWalk.u16_in _ (by omega)
  unfold offI
  go_enter Tryz.func101, Tryz.ntmps101
  go_wp2
  go_ret
  exact ⟨rfl, rfl⟩
def partsC : Array Value := #[.int .u32 0, .int .u8 0, .int .u32 1048576, .int .u8 2, .int .u32 2031616, .int .u8 1, .int .u32 2064384, .int .u8 2, .int .u32 2088960, .int .u8 3, .int .u32 2089984, .int .u8 4, .int .u32 2091008, .int .u8 5, .int .u32 2092032, .int .u8 6, .int .u32 2093056, .int .u8 7, .int .u32 2094080, .int .u8 8, .int .u32 2095104, .int .u8 2]
def partsA : List (Nat × Value) := [(0, .agg #[.int .u32 0, .int .u8 0]), (1, .agg #[.int .u32 1048576, .int .u8 2]), (2, .agg #[.int .u32 2031616, .int .u8 1]), (3, .agg #[.int .u32 2064384, .int .u8 2]), (4, .agg #[.int .u32 2088960, .int .u8 3]), (5, .agg #[.int .u32 2089984, .int .u8 4]), (6, .agg #[.int .u32 2091008, .int .u8 5]), (7, .agg #[.int .u32 2092032, .int .u8 6]), (8, .agg #[.int .u32 2093056, .int .u8 7]), (9, .agg #[.int .u32 2094080, .int .u8 8]), (10, .agg #[.int .u32 2095104, .int .u8 2])]
theorem parts_built : Tryz.prog.built 203 partsA = some partsC := by kernel_rfl
set_option maxHeartbeats 1000000 in
theorem parts_any (w : World) :
    Calls Tryz.prog 126 #[] w fun e w' => e = .returned (.agg partsC) ∧ Below w.heap.size w w' := by
  have hst := fun W => run_storeCells_new (P := Tryz.prog) W 203 #[.int .u32 0, .int .u8 0, .int .u32 0, .int .u8 0, .int .u32 0, .int .u8 0, .int .u32 0, .int .u8 0, .int .u32 0, .int .u8 0, .int .u32 0, .int .u8 0, .int .u32 0, .int .u8 0, .int .u32 0, .int .u8 0, .int .u32 0, .int .u8 0, .int .u32 0, .int .u8 0, .int .u32 0, .int .u8 0] partsC (by kernel_rfl) rfl (by kernel_rfl)
  have hld := fun W => run_loadVar_new (P := Tryz.prog) W 203 partsC 11 202 Tryz.underlying203 (by kernel_rfl)
  go_enter Tryz.func126, Tryz.ntmps126
  go_wp2_with (refine wpList_build rfl 203 _ rfl partsA (by rfl) partsC parts_built ?_)
  refine bodyPost_ret (v := .agg partsC) (results_cell (a := ⟨w.heap.size, 0, none⟩) Tryz.results126 (by rfl) (hld _)) rfl ?_
  exact ⟨rfl, by go_grown⟩
def fromN : Nat → Int
  | 0 => 0 | 1 => 1048576 | 2 => 2031616 | 3 => 2064384 | 4 => 2088960 | 5 => 2089984 | 6 => 2091008 | 7 => 2092032 | 8 => 2093056 | 9 => 2094080 | 10 => 2095104 | _ => 2097152
def kindN : Nat → Int
  | 0 => 0 | 1 => 2 | 2 => 1 | 3 => 2 | 4 => 3 | 5 => 4 | 6 => 5 | 7 => 6 | 8 => 7 | 9 => 8 | _ => 2
/-- Which part an address lies in. -/
def partAt (x : Int) : Nat := if x < 1048576 then 0 else if x < 2031616 then 1 else if x < 2064384 then 2 else if x < 2088960 then 3 else if x < 2089984 then 4 else if x < 2091008 then 5 else if x < 2092032 then 6 else if x < 2093056 then 7 else if x < 2094080 then 8 else if x < 2095104 then 9 else 10
def whereI (a : Int) : Int := kindN (partAt (a % 2097152))
theorem partAt_lt (x : Int) : partAt x < 11 := by unfold partAt; (repeat' split) <;> omega
theorem below11 (k : Nat) (hk : k < 11) : k = 0 ∨ k = 1 ∨ k = 2 ∨ k = 3 ∨ k = 4 ∨ k = 5 ∨ k = 6 ∨ k = 7 ∨ k = 8 ∨ k = 9 ∨ k = 10 := by omega
theorem fromN_mono (i j : Nat) (h : i ≤ j) (hj : j < 12) : fromN i ≤ fromN j := by
  have : ∀ j : Fin 12, ∀ i : Fin 12, i ≤ j → fromN i ≤ fromN j := by decide
  exact this ⟨j, hj⟩ ⟨i, by omega⟩ h
theorem partAt_in (x : Int) (h0 : 0 ≤ x) (h1 : x < 2097152) : fromN (partAt x) ≤ x ∧ x < fromN (partAt x + 1) := by
  unfold partAt; (repeat' split) <;> simp only [fromN] <;> omega
theorem partAt_iff (x : Int) (h0 : 0 ≤ x) (h1 : x < 2097152) (k : Nat) (hk : k < 11) : fromN k ≤ x ↔ k ≤ partAt x := by
  obtain ⟨a, b⟩ := partAt_in x h0 h1
  have l := partAt_lt x
  constructor
  · intro h
    rcases Nat.lt_or_ge (partAt x) k with c | c
    · have := fromN_mono (partAt x + 1) k c (by omega); omega
    · exact c
  · intro h
    have := fromN_mono k (partAt x) h (by omega); omega
theorem parts_at (k : Nat) (h : k < 11) (w : World) : (Instr.index 203 (.agg partsC) (.int .i64 k)).run Tryz.prog w = .ok (.agg #[.int .u32 (fromN k), .int .u8 (kindN k)]) w := by
  rcases below11 k h with rfl | rfl | rfl | rfl | rfl | rfl | rfl | rfl | rfl | rfl | rfl
  all_goals (show _ = _; kernel_rfl)
/-- What is where k parts have been passed. -/
def seenN : Nat → Int
  | 0 => 2
  | k + 1 => kindN k
set_option maxHeartbeats 1000000 in
theorem where_any (a : Int) (w : World) (a0 : 0 ≤ a) (a1 : a ≤ 4294967295) :
    Calls Tryz.prog 102 #[.int .u32 a] w fun e w' => e = .returned (.int .u8 (whereI a)) ∧ Below w.heap.size w w' := by
  have P := Lib.hid (partAt_iff (a % 2097152) (by omega) (by omega))
  have Q := Lib.hid (partAt_lt (a % 2097152))
  go_enter Tryz.func102, Tryz.ntmps102
  go_wp2_with (go_at_call 126; refine (parts_any _).mono ?_; rintro e w' ⟨rfl, hb⟩)
  go_loopw [3, 7] (fun s i wr => ∃ k : Nat, k ≤ 11 ∧ i = .int .i64 k ∧ s = .int .u8 (seenN k) ∧ Below w.heap.size w wr ∧ Hid (k ≤ partAt (a % 2097152) + 1)) (fun _ i _ => 11 - (intOf i).toNat)
  case atStart => exact ⟨0, by omega, rfl, rfl, hb, Lib.hid (by omega)⟩
  case round =>
    obtain ⟨k, hk, rfl, rfl, hB, H⟩ := hrel
    have zB := hB.size
    by_cases hlt : k < 11
    · have hx := parts_at k hlt
      by_cases e : fromN k ≤ a % 2097152
      · have H2 := Lib.hid ((P.out k hlt).1 e)
        go_wp2_with fail
        go_roundw
        case rel => exact ⟨k + 1, by omega, by go_num, rfl, by go_grown, Lib.hid (by have := H2.out; omega)⟩
        case measure => simp [intOf]; omega
      · have H2 : Hid (k = partAt (a % 2097152) + 1) := by
          have h1 := H.out
          have h2 := mt (P.out k hlt).2 e
          show _ = _
          omega
        have e' : a % 2097152 < fromN k := by omega
        clear e
        go_wp2_with fail
        go_ret
        exact ⟨by rw [H2.out]; rfl, by go_grown⟩
    · obtain rfl : k = 11 := by omega
      go_wp2_with fail
      go_ret
      refine ⟨?_, hB⟩
      have h1 := H.out
      have h2 := Q.out
      unfold whereI
      rw [show partAt (a % 2097152) = 10 by omega]; rfl
theorem kindN_bd (k : Nat) : 0 ≤ kindN k ∧ kindN k ≤ 8 := by unfold kindN; split <;> omega
theorem whereI_bd (a : Int) : 0 ≤ whereI a ∧ whereI a ≤ 8 := kindN_bd _
def extraB (a : Int) : Bool := whereI a == 3 || whereI a == 4
set_option maxHeartbeats 1000000 in
theorem extra_any (a : Int) (w : World) (a0 : 0 ≤ a) (a1 : a ≤ 4294967295) :
    Calls Tryz.prog 97 #[.int .u32 a] w fun e w' => e = .returned (.bool (extraB a)) ∧ Below w.heap.size w w' := by
  unfold extraB
  generalize hx : whereI a = x
  have H := Lib.hid hx
  clear hx
  by_cases h : x = 3
  · subst h
    go_enter Tryz.func97, Tryz.ntmps97
    go_wp2_with (go_at_call 102; refine (where_any _ _ a0 a1).mono ?_; rw [H.out]; rintro e w' ⟨rfl, hb⟩)
    go_ret
    exact ⟨rfl, hb⟩
  · have h' : (x == 3) = false := by simpa using h
    have HX := Lib.hid h
    clear h
    go_enter Tryz.func97, Tryz.ntmps97
    go_wp2_with (go_at_call 102; refine (where_any _ _ a0 a1).mono ?_; rw [H.out]; rintro e w' ⟨rfl, hb⟩)
    go_ret
    exact ⟨by simp; exact fun e => absurd e HX.out, hb⟩
def regsI (x : Int) : Int := if x = 5 then 16 else if x = 4 then 8 else if x = 3 ∨ x = 8 then 4 else if x = 6 then 2 else if x = 7 then 1 else 0
set_option maxHeartbeats 1000000 in
theorem registers_any (x : Int) (w : World) (h0 : 0 ≤ x) (h1 : x ≤ 8) :
    Calls Tryz.prog 147 #[.int .u8 x] w fun e w' => e = .returned (.int .i64 (regsI x)) ∧ w = w' := by
  have : x = 0 ∨ x = 1 ∨ x = 2 ∨ x = 3 ∨ x = 4 ∨ x = 5 ∨ x = 6 ∨ x = 7 ∨ x = 8 := by omega
  clear h0 h1
  rcases this with rfl | rfl | rfl | rfl | rfl | rfl | rfl | rfl | rfl
  all_goals
    go_enter Tryz.func147, Tryz.ntmps147
    go_wp2
    go_ret
    exact ⟨rfl, rfl⟩
def regI (a : Int) : Int := if regsI (whereI a) = 0 then -1 else offI a % regsI (whereI a)
set_option maxHeartbeats 1000000 in
theorem reg_any (a : Int) (w : World) (a0 : 0 ≤ a) (a1 : a ≤ 4294967295) :
    Calls Tryz.prog 123 #[.int .u32 a] w fun e w' => e = .returned (.int .i64 (regI a)) ∧ Below w.heap.size w w' := by
  have xb := whereI_bd a
  have ob : 0 ≤ offI a ∧ offI a ≤ 8191 := by unfold offI; omega
  obtain ⟨x, hx⟩ : ∃ x, whereI a = x := ⟨_, rfl⟩
  unfold regI
  rw [hx] at xb ⊢
  have H := Lib.hid hx
  clear hx
  have : regsI x = 0 ∨ regsI x = 1 ∨ regsI x = 2 ∨ regsI x = 4 ∨ regsI x = 8 ∨ regsI x = 16 := by unfold regsI; (repeat' split) <;> omega
  obtain ⟨n, hn⟩ : ∃ n, regsI x = n := ⟨_, rfl⟩
  rw [hn] at this ⊢
  have HN := Lib.hid hn
  clear hn
  rcases this with rfl | rfl | rfl | rfl | rfl | rfl
  all_goals
    go_enter Tryz.func123, Tryz.ntmps123
    go_wp2_with (first | (go_at_call 102; refine (where_any _ _ a0 a1).mono ?_; rw [H.out]; rintro e w' ⟨rfl, hb⟩) | (go_at_call 147; refine (registers_any _ _ xb.1 xb.2).mono ?_; rw [HN.out]; rintro e w' ⟨rfl, rfl⟩) | (go_at_call 101; refine (off_any _ _ a0 a1).mono ?_; rintro e w' ⟨rfl, rfl⟩))
    go_ret
    exact ⟨by simp, hb⟩
end Go.Proofs.YtngfmofjonleeaaGreat
namespace Go.Proofs.YtngfmofjonleeaaGreat
open Go.RowKit
set_option linter.unusedVariables false
set_option maxHeartbeats 400000 in
theorem rbank_any (a : Int) (w : World) (a0 : 0 ≤ a) (a1 : a ≤ 4294967295) :
    Calls Tryz.prog 39 #[.int .u32 a] w fun e w' => e = .returned (.int .i64 (bankI a)) ∧ w = w' := by
  unfold bankI
  go_enter Tryz.func39, Tryz.ntmps39
  go_wp2
  go_ret
  exact ⟨rfl, rfl⟩
set_option maxHeartbeats 400000 in
theorem roff_any (a : Int) (w : World) (a0 : 0 ≤ a) (a1 : a ≤ 4294967295) :
    Calls Tryz.prog 71 #[.int .u32 a] w fun e w' => e = .returned (.int .i64 (offI a)) ∧ w = w' := by
  unfold offI
  go_enter Tryz.func71, Tryz.ntmps71
  go_wp2
  go_ret
  exact ⟨rfl, rfl⟩
theorem bankI_bd (a : Int) : 0 ≤ bankI a ∧ bankI a ≤ 255 := by unfold bankI; omega
theorem offI_bd (a : Int) : 0 ≤ offI a ∧ offI a ≤ 8191 := by unfold offI; omega
theorem where_rom (a : Int) (h : bankI a < 128) : whereI a = 0 := by
  have : a % 2097152 < 1048576 := by unfold bankI at h; omega
  unfold whereI partAt; rw [if_pos this]; rfl
theorem where_open1 (a : Int) (h0 : 128 ≤ bankI a) (h1 : bankI a < 248) : whereI a = 2 := by
  unfold bankI at h0 h1; unfold whereI partAt; rw [if_neg (by omega), if_pos (by omega)]; rfl
theorem where_ram (a : Int) (h0 : 248 ≤ bankI a) (h1 : bankI a ≤ 251) : whereI a = 1 := by
  unfold bankI at h0 h1; unfold whereI partAt; rw [if_neg (by omega), if_neg (by omega), if_pos (by omega)]; rfl
theorem where_open2 (a : Int) (h0 : 252 ≤ bankI a) (h1 : bankI a < 255) : whereI a = 2 := by
  unfold bankI at h0 h1; unfold whereI partAt; rw [if_neg (by omega), if_neg (by omega), if_neg (by omega), if_pos (by omega)]; rfl
theorem where_open3 (a : Int) (h0 : bankI a = 255) (h1 : 6144 ≤ offI a) : whereI a = 2 := by
  unfold bankI at h0; unfold offI at h1; unfold whereI partAt
  rw [if_neg (by omega), if_neg (by omega), if_neg (by omega), if_neg (by omega), if_neg (by omega), if_neg (by omega), if_neg (by omega), if_neg (by omega), if_neg (by omega), if_neg (by omega)]; rfl
theorem where_unit (a : Int) (h0 : bankI a = 255) (h1 : offI a < 6144) : whereI a = 3 + offI a / 1024 := by
  unfold bankI at h0; unfold offI at h1 ⊢; unfold whereI partAt
  (repeat' split) <;> simp only [kindN] <;> omega
set_option maxHeartbeats 2000000 in
theorem rwhere_any (a : Int) (w : World) (a0 : 0 ≤ a) (a1 : a ≤ 4294967295) :
    Calls Tryz.prog 38 #[.int .u32 a] w fun e w' => e = .returned (.int .u8 (whereI a)) ∧ Below w.heap.size w w' := by
  have W1 := where_rom a
  have W2 := where_open1 a
  have W3 := where_ram a
  have W4 := where_open2 a
  have W5 := where_open3 a
  have W6 := where_unit a
  have bb := bankI_bd a
  have ob := offI_bd a
  obtain ⟨b, hb⟩ : ∃ b, bankI a = b := ⟨_, rfl⟩
  obtain ⟨o, ho⟩ : ∃ o, offI a = o := ⟨_, rfl⟩
  obtain ⟨x, hx⟩ : ∃ x, whereI a = x := ⟨_, rfl⟩
  rw [hb, hx] at W1 W2 W3 W4 W5 W6
  rw [ho] at W5 W6
  rw [hb] at bb
  rw [ho] at ob
  rw [hx]
  have HB := Lib.hid hb
  have HO := Lib.hid ho
  clear hb ho hx
  by_cases c1 : b < 128
  · obtain rfl := W1 c1
    clear W1 W2 W3 W4 W5 W6
    go_enter Tryz.func38, Tryz.ntmps38
    go_wp2_with (first | (go_at_call 39; refine (rbank_any _ _ a0 a1).mono ?_; rw [HB.out]; rintro e w' ⟨rfl, rfl⟩) | (go_at_call 71; refine (roff_any _ _ a0 a1).mono ?_; rw [HO.out]; rintro e w' ⟨rfl, rfl⟩))
    go_ret
    exact ⟨rfl, Below.refl _ _⟩
  have c1' : 128 ≤ b := by omega
  clear c1 W1
  by_cases c2 : b < 248
  · obtain rfl := W2 c1' c2
    have d1 : decide (248 ≤ b) = false := by simp; omega
    have d2 : (b != 255) = true := by rw [bne_iff_ne]; omega
    clear W2 W3 W4 W5 W6
    go_enter Tryz.func38, Tryz.ntmps38
    go_wp2_with (first | (go_at_call 39; refine (rbank_any _ _ a0 a1).mono ?_; rw [HB.out]; rintro e w' ⟨rfl, rfl⟩) | (go_at_call 71; refine (roff_any _ _ a0 a1).mono ?_; rw [HO.out]; rintro e w' ⟨rfl, rfl⟩))
    go_ret
    exact ⟨rfl, Below.refl _ _⟩
  have c2' : 248 ≤ b := by omega
  clear c2 W2
  by_cases c3 : b ≤ 251
  · obtain rfl := W3 c2' c3
    clear W3 W4 W5 W6
    go_enter Tryz.func38, Tryz.ntmps38
    go_wp2_with (first | (go_at_call 39; refine (rbank_any _ _ a0 a1).mono ?_; rw [HB.out]; rintro e w' ⟨rfl, rfl⟩) | (go_at_call 71; refine (roff_any _ _ a0 a1).mono ?_; rw [HO.out]; rintro e w' ⟨rfl, rfl⟩))
    go_ret
    exact ⟨rfl, Below.refl _ _⟩
  have c3' : 252 ≤ b := by omega
  have d1 : decide (b ≤ 251) = false := by simp; omega
  clear c3 W3
  by_cases c4 : b < 255
  · obtain rfl := W4 c3' c4
    have d2 : (b != 255) = true := by rw [bne_iff_ne]; omega
    clear W4 W5 W6
    go_enter Tryz.func38, Tryz.ntmps38
    go_wp2_with (first | (go_at_call 39; refine (rbank_any _ _ a0 a1).mono ?_; rw [HB.out]; rintro e w' ⟨rfl, rfl⟩) | (go_at_call 71; refine (roff_any _ _ a0 a1).mono ?_; rw [HO.out]; rintro e w' ⟨rfl, rfl⟩))
    go_ret
    exact ⟨rfl, Below.refl _ _⟩
  obtain rfl : b = 255 := by omega
  clear c4 W4 d1
  by_cases c5 : 6144 ≤ o
  · obtain rfl := W5 rfl c5
    clear W5 W6
    go_enter Tryz.func38, Tryz.ntmps38
    go_wp2_with (first | (go_at_call 39; refine (rbank_any _ _ a0 a1).mono ?_; rw [HB.out]; rintro e w' ⟨rfl, rfl⟩) | (go_at_call 71; refine (roff_any _ _ a0 a1).mono ?_; rw [HO.out]; rintro e w' ⟨rfl, rfl⟩))
    go_ret
    exact ⟨rfl, Below.refl _ _⟩
  have c5' : o < 6144 := by omega
  have d2 : decide (6144 ≤ o) = false := by simp; omega
  obtain rfl := W6 rfl c5'
  clear c5 W5 W6
  have : o / 1024 = 0 ∨ o / 1024 = 1 ∨ o / 1024 = 2 ∨ o / 1024 = 3 ∨ o / 1024 = 4 ∨ o / 1024 = 5 := by omega
  rcases this with hk | hk | hk | hk | hk | hk
  all_goals
    go_enter Tryz.func38, Tryz.ntmps38
    go_wp2_with (first | (go_at_call 39; refine (rbank_any _ _ a0 a1).mono ?_; rw [HB.out]; rintro e w' ⟨rfl, rfl⟩) | (go_at_call 71; refine (roff_any _ _ a0 a1).mono ?_; rw [HO.out]; rintro e w' ⟨rfl, rfl⟩))
    go_ret
    exact ⟨by simp [hk], by go_grown⟩
set_option maxHeartbeats 1000000 in
theorem rextra_any (a : Int) (w : World) (a0 : 0 ≤ a) (a1 : a ≤ 4294967295) :
    Calls Tryz.prog 69 #[.int .u32 a] w fun e w' => e = .returned (.bool (extraB a)) ∧ Below w.heap.size w w' := by
  unfold extraB
  generalize hx : whereI a = x
  have H := Lib.hid hx
  clear hx
  by_cases h : x = 3
  · subst h
    go_enter Tryz.func69, Tryz.ntmps69
    go_wp2_with (go_at_call 38; refine (rwhere_any _ _ a0 a1).mono ?_; rw [H.out]; rintro e w' ⟨rfl, hb⟩)
    go_ret
    exact ⟨rfl, hb⟩
  · have h' : (x == 3) = false := by simpa using h
    have HX := Lib.hid h
    clear h
    go_enter Tryz.func69, Tryz.ntmps69
    go_wp2_with fail
    refine (rwhere_any _ _ a0 a1).mono ?_; rw [H.out]; rintro e w' ⟨rfl, hb⟩
    go_wp2_with fail
    refine (rwhere_any _ _ a0 a1).mono ?_; rw [H.out]; rintro e w'' ⟨rfl, hb2⟩
    go_wp2_with fail
    go_ret
    exact ⟨by simp; exact fun e => absurd e HX.out, hb.trans (hb2.mono hb.size)⟩
set_option maxHeartbeats 2000000 in
theorem rreg_any (a : Int) (w : World) (a0 : 0 ≤ a) (a1 : a ≤ 4294967295) :
    Calls Tryz.prog 74 #[.int .u32 a] w fun e w' => e = .returned (.int .i64 (regI a)) ∧ Below w.heap.size w w' := by
  have xb := whereI_bd a
  have ob := offI_bd a
  obtain ⟨x, hx⟩ : ∃ x, whereI a = x := ⟨_, rfl⟩
  obtain ⟨o, ho⟩ : ∃ o, offI a = o := ⟨_, rfl⟩
  unfold regI
  rw [hx] at xb ⊢
  rw [ho] at ob ⊢
  have H := Lib.hid hx
  have HO := Lib.hid ho
  clear hx ho
  have : x = 0 ∨ x = 1 ∨ x = 2 ∨ x = 3 ∨ x = 4 ∨ x = 5 ∨ x = 6 ∨ x = 7 ∨ x = 8 := by omega
  clear xb
  rcases this with rfl | rfl | rfl | rfl | rfl | rfl | rfl | rfl | rfl
  all_goals
    go_enter Tryz.func74, Tryz.ntmps74
    go_wp2_with (first | (go_at_call 38; refine (rwhere_any _ _ a0 a1).mono ?_; rw [H.out]; rintro e w' ⟨rfl, hb⟩) | (go_at_call 71; refine (roff_any _ _ a0 a1).mono ?_; rw [HO.out]; rintro e w' ⟨rfl, rfl⟩))
    go_ret
    exact ⟨by simp [regsI], hb⟩
end Go.Proofs.YtngfmofjonleeaaGreat
