/-
  Texts of these proofs, one behind the other: A4, Phys1, Mmu3.
-/
import Derived.Test.YtccimkmlbcgekaaGreatKA07
import Derived.Test.YtccimkmlbcgekaaGreatKA01
import Derived.Test.YtccimkmlbcgekaaGreatKA03
import Derived.Laws.Tables
import Derived.Deep.WholeRow
import Derived.Test.YtccimkmlbcgekaaGreatKA06
import Derived.Test.YtccimkmlbcgekaaGreatKA02
namespace Go.Proofs.YtccimkmlbcgekaaGreat
open Go.RowKit
def hexL (n : Int) : Nat → List Int
  | 0 => []
  | k + 1 => hexL (n / 16) k ++ [digI (n % 16).toNat]
theorem figs_int (m : Int) (a : 0 ≤ m) (b : m < 16) : figs[m.toNat]? = some (.int .u8 (digI m.toNat)) := figs_at _ (by omega)
def held8 (d : Int) : Nat := if d < 1 then 1 else if 8 < d then 8 else d.toNat
end Go.Proofs.YtccimkmlbcgekaaGreat
namespace Go.Proofs.YtccimkmlbcgekaaGreat
open Go.RowKit
set_option linter.unusedVariables false
def bankI (a : Int) : Int := a % 2097152 / 8192
def offI (a : Int) : Int := a % 8192
set_option maxHeartbeats 400000 in
theorem addr_any (b o : Int) (w : World) (b0 : 0 ≤ b) (b1 : b ≤ 255) (o0 : 0 ≤ o) (o1 : o ≤ 65535) :
    Calls Tryz.prog 83 #[.int .u8 b, .int .u16 o] w fun e w' => e = .returned (.int .u32 (b * 8192 + o % 8192)) ∧ w = w' := by
  go_enter Tryz.func83, Tryz.ntmps83
  go_wp2
  go_ret
  exact ⟨rfl, rfl⟩
set_option maxHeartbeats 400000 in
theorem bank_any (a : Int) (w : World) (a0 : 0 ≤ a) (a1 : a ≤ 4294967295) :
    Calls Tryz.prog 87 #[.int .u32 a] w fun e w' => e = .returned (.int .u8 (bankI a)) ∧ w = w' := by
  have h : IntKind.u8.wrap (a % 2097152 / 8192) = a % 2097152 / 8192 := IntWalk.u8_in _ (by omega)
  unfold bankI
  go_enter Tryz.func87, Tryz.ntmps87
  go_wp2
  go_ret
  exact ⟨rfl, rfl⟩
set_option maxHeartbeats 400000 in
theorem off_any (a : Int) (w : World) (a0 : 0 ≤ a) (a1 : a ≤ 4294967295) :
    Calls Tryz.prog 79 #[.int .u32 a] w fun e w' => e = .returned (.int .u16 (offI a)) ∧ w = w' := by
  have h : IntKind.u16.wrap (a % 8192) = a % 8192 := IntWalk.u16_in _ (by omega)
  unfold offI
  go_enter Tryz.func79, Tryz.ntmps79
  go_wp2
  go_ret
  exact ⟨rfl, rfl⟩
def partsC : Array Value := #[.int .u32 0, .int .u8 0, .int .u32 1048576, .int .u8 2, .int .u32 2031616, .int .u8 1, .int .u32 2064384, .int .u8 2, .int .u32 2088960, .int .u8 3, .int .u32 2089984, .int .u8 4, .int .u32 2091008, .int .u8 5, .int .u32 2092032, .int .u8 6, .int .u32 2093056, .int .u8 7, .int .u32 2094080, .int .u8 8, .int .u32 2095104, .int .u8 2]
def partsA : List (Nat × Value) := [(0, .agg #[.int .u32 0, .int .u8 0]), (1, .agg #[.int .u32 1048576, .int .u8 2]), (2, .agg #[.int .u32 2031616, .int .u8 1]), (3, .agg #[.int .u32 2064384, .int .u8 2]), (4, .agg #[.int .u32 2088960, .int .u8 3]), (5, .agg #[.int .u32 2089984, .int .u8 4]), (6, .agg #[.int .u32 2091008, .int .u8 5]), (7, .agg #[.int .u32 2092032, .int .u8 6]), (8, .agg #[.int .u32 2093056, .int .u8 7]), (9, .agg #[.int .u32 2094080, .int .u8 8]), (10, .agg #[.int .u32 2095104, .int .u8 2])]
theorem parts_built : Tryz.prog.built 174 partsA = some partsC := by kernel_rfl
set_option maxHeartbeats 1000000 in
theorem parts_any (w : World) :
    Calls Tryz.prog 88 #[] w fun e w' => e = .returned (.agg partsC) ∧ Below w.heap.size w w' := by
  have hst := fun W => run_storeCells_new (P := Tryz.prog) W 174 #[.int .u32 0, .int .u8 0, .int .u32 0, .int .u8 0, .int .u32 0, .int .u8 0, .int .u32 0, .int .u8 0, .int .u32 0, .int .u8 0, .int .u32 0, .int .u8 0, .int .u32 0, .int .u8 0, .int .u32 0, .int .u8 0, .int .u32 0, .int .u8 0, .int .u32 0, .int .u8 0, .int .u32 0, .int .u8 0] partsC (by kernel_rfl) rfl (by kernel_rfl)
  have hld := fun W => run_loadVar_new (P := Tryz.prog) W 174 partsC 11 173 Tryz.underlying174 (by kernel_rfl)
  go_enter Tryz.func88, Tryz.ntmps88
  go_wp2_with (refine wpList_build rfl 174 _ rfl partsA (by rfl) partsC parts_built ?_)
  refine bodyPost_ret (v := .agg partsC) (results_cell (a := ⟨w.heap.size, 0, none⟩) Tryz.results88 (by rfl) (hld _)) rfl ?_
  exact ⟨rfl, by go_grown⟩
def fromN : Nat → Int
  | 0 => 0 | 1 => 1048576 | 2 => 2031616 | 3 => 2064384 | 4 => 2088960 | 5 => 2089984 | 6 => 2091008 | 7 => 2092032 | 8 => 2093056 | 9 => 2094080 | 10 => 2095104 | _ => 2097152
def kindN : Nat → Int
  | 0 => 0 | 1 => 2 | 2 => 1 | 3 => 2 | 4 => 3 | 5 => 4 | 6 => 5 | 7 => 6 | 8 => 7 | 9 => 8 | _ => 2
/-- Which part an address lies in. -/
def partAt (x : Int) : Nat := if x < 1048576 then 0 else if x < 2031616 then 1 else if x < 2064384 then 2 else if x < 2088960 then 3 else if x < 2089984 then 4 else if x < 2091008 then 5 else if x < 2092032 then 6 else if x < 2093056 then 7 else if x < 2094080 then 8 else if x < 2095104 then 9 else 10
def whereI (a : Int) : Int := kindN (partAt (a % 2097152))
theorem partAt_lt (x : Int) : partAt x < 11 := by unfold partAt; (repeat' split) <;> omega
theorem below11 (k : Nat) (hk : k < 11) : k = 0 ∨ k = 1 ∨ k = 2 ∨ k = 3 ∨ k = 4 ∨ k = 5 ∨ k = 6 ∨ k = 7 ∨ k = 8 ∨ k = 9 ∨ k = 10 := by omega
theorem fromN_mono (i j : Nat) (h : i ≤ j) (hj : j < 12) : fromN i ≤ fromN j := by
  have : ∀ j : Fin 12, ∀ i : Fin 12, i ≤ j → fromN i ≤ fromN j := by decide
  exact this ⟨j, hj⟩ ⟨i, by omega⟩ h
theorem partAt_in (x : Int) (h0 : 0 ≤ x) (h1 : x < 2097152) : fromN (partAt x) ≤ x ∧ x < fromN (partAt x + 1) := by
  unfold partAt; (repeat' split) <;> simp only [fromN] <;> omega
theorem partAt_iff (x : Int) (h0 : 0 ≤ x) (h1 : x < 2097152) (k : Nat) (hk : k < 11) : fromN k ≤ x ↔ k ≤ partAt x := by
  obtain ⟨a, b⟩ := partAt_in x h0 h1
  have l := partAt_lt x
  constructor
  · intro h
    rcases Nat.lt_or_ge (partAt x) k with c | c
    · have := fromN_mono (partAt x + 1) k c (by omega); omega
    · exact c
  · intro h
    have := fromN_mono k (partAt x) h (by omega); omega
theorem parts_at (k : Nat) (h : k < 11) (w : World) : (Instr.index 174 (.agg partsC) (.int .i64 k)).run Tryz.prog w = .ok (.agg #[.int .u32 (fromN k), .int .u8 (kindN k)]) w := by
  rcases below11 k h with rfl | rfl | rfl | rfl | rfl | rfl | rfl | rfl | rfl | rfl | rfl
  all_goals (show _ = _; kernel_rfl)
/-- What is where k parts have been passed. -/
def seenN : Nat → Int
  | 0 => 2
  | k + 1 => kindN k
set_option maxHeartbeats 1000000 in
theorem where_any (a : Int) (w : World) (a0 : 0 ≤ a) (a1 : a ≤ 4294967295) :
    Calls Tryz.prog 31 #[.int .u32 a] w fun e w' => e = .returned (.int .u8 (whereI a)) ∧ Below w.heap.size w w' := by
  have P := Lib.hid (partAt_iff (a % 2097152) (by omega) (by omega))
  have Q := Lib.hid (partAt_lt (a % 2097152))
  go_enter Tryz.func31, Tryz.ntmps31
  go_wp2_with (go_at_call 88; refine (parts_any _).mono ?_; rintro e w' ⟨rfl, hb⟩)
  go_loopw [3, 7] (fun s i wr => ∃ k : Nat, k ≤ 11 ∧ i = .int .i64 k ∧ s = .int .u8 (seenN k) ∧ Below w.heap.size w wr ∧ Hid (k ≤ partAt (a % 2097152) + 1)) (fun _ i _ => 11 - (intOf i).toNat)
  case atStart => exact ⟨0, by omega, rfl, rfl, hb, Lib.hid (by omega)⟩
  case round =>
    obtain ⟨k, hk, rfl, rfl, hB, H⟩ := hrel
    have zB := hB.size
    by_cases hlt : k < 11
    · have hx := parts_at k hlt
      by_cases e : fromN k ≤ a % 2097152
      · have H2 := Lib.hid ((P.out k hlt).1 e)
        go_wp2_with fail
        go_roundw
        case rel => exact ⟨k + 1, by omega, by go_num, rfl, by go_grown, Lib.hid (by have := H2.out; omega)⟩
        case measure => simp [intOf]; omega
      · have H2 : Hid (k = partAt (a % 2097152) + 1) := by
          have h1 := H.out
          have h2 := mt (P.out k hlt).2 e
          show _ = _
          omega
        have e' : a % 2097152 < fromN k := by omega
        clear e
        go_wp2_with fail
        go_ret
        exact ⟨by rw [H2.out]; rfl, by go_grown⟩
    · obtain rfl : k = 11 := by omega
      go_wp2_with fail
      go_ret
      refine ⟨?_, hB⟩
      have h1 := H.out
      have h2 := Q.out
      unfold whereI
      rw [show partAt (a % 2097152) = 10 by omega]; rfl
theorem kindN_bd (k : Nat) : 0 ≤ kindN k ∧ kindN k ≤ 8 := by unfold kindN; split <;> omega
theorem whereI_bd (a : Int) : 0 ≤ whereI a ∧ whereI a ≤ 8 := kindN_bd _
def extraB (a : Int) : Bool := whereI a == 3 || whereI a == 4
set_option maxHeartbeats 1000000 in
theorem extra_any (a : Int) (w : World) (a0 : 0 ≤ a) (a1 : a ≤ 4294967295) :
    Calls Tryz.prog 124 #[.int .u32 a] w fun e w' => e = .returned (.bool (extraB a)) ∧ Below w.heap.size w w' := by
  unfold extraB
  generalize hx : whereI a = x
  have H := Lib.hid hx
  clear hx
  by_cases h : x = 3
  · subst h
    go_enter Tryz.func124, Tryz.ntmps124
    go_wp2_with (go_at_call 31; refine (where_any _ _ a0 a1).mono ?_; rw [H.out]; rintro e w' ⟨rfl, hb⟩)
    go_ret
    exact ⟨rfl, hb⟩
  · have h' : (x == 3) = false := by simpa using h
    have HX := Lib.hid h
    clear h
    go_enter Tryz.func124, Tryz.ntmps124
    go_wp2_with (go_at_call 31; refine (where_any _ _ a0 a1).mono ?_; rw [H.out]; rintro e w' ⟨rfl, hb⟩)
    go_ret
    exact ⟨by simp; exact fun e => absurd e HX.out, hb⟩
def regsI (x : Int) : Int := if x = 5 then 16 else if x = 4 then 8 else if x = 3 ∨ x = 8 then 4 else if x = 6 then 2 else if x = 7 then 1 else 0
set_option maxHeartbeats 1000000 in
theorem registers_any (x : Int) (w : World) (h0 : 0 ≤ x) (h1 : x ≤ 8) :
    Calls Tryz.prog 191 #[.int .u8 x] w fun e w' => e = .returned (.int .i64 (regsI x)) ∧ w = w' := by
  have : x = 0 ∨ x = 1 ∨ x = 2 ∨ x = 3 ∨ x = 4 ∨ x = 5 ∨ x = 6 ∨ x = 7 ∨ x = 8 := by omega
  clear h0 h1
  rcases this with rfl | rfl | rfl | rfl | rfl | rfl | rfl | rfl | rfl
  all_goals
    go_enter Tryz.func191, Tryz.ntmps191
    go_wp2
    go_ret
    exact ⟨rfl, rfl⟩
def regI (a : Int) : Int := if regsI (whereI a) = 0 then -1 else offI a % regsI (whereI a)
theorem reg_bd (a : Int) (n : Int) (h : 0 < n) : 0 ≤ offI a % n := Int.emod_nonneg _ (by omega)
set_option maxHeartbeats 1000000 in
theorem reg_any (a : Int) (w : World) (a0 : 0 ≤ a) (a1 : a ≤ 4294967295) :
    Calls Tryz.prog 172 #[.int .u32 a] w fun e w' => e = .returned (.int .i64 (regI a)) ∧ Below w.heap.size w w' := by
  have xb := whereI_bd a
  have ob : 0 ≤ offI a ∧ offI a ≤ 8191 := by unfold offI; omega
  obtain ⟨x, hx⟩ : ∃ x, whereI a = x := ⟨_, rfl⟩
  unfold regI
  rw [hx] at xb ⊢
  have H := Lib.hid hx
  clear hx
  have : regsI x = 0 ∨ regsI x = 1 ∨ regsI x = 2 ∨ regsI x = 4 ∨ regsI x = 8 ∨ regsI x = 16 := by unfold regsI; (repeat' split) <;> omega
  obtain ⟨n, hn⟩ : ∃ n, regsI x = n := ⟨_, rfl⟩
  rw [hn] at this ⊢
  have HN := Lib.hid hn
  clear hn
  rcases this with rfl | rfl | rfl | rfl | rfl | rfl
  all_goals
    go_enter Tryz.func172, Tryz.ntmps172
    go_wp2_with (first | (go_at_call 31; refine (where_any _ _ a0 a1).mono ?_; rw [H.out]; rintro e w' ⟨rfl, hb⟩) | (go_at_call 191; refine (registers_any _ _ xb.1 xb.2).mono ?_; rw [HN.out]; rintro e w' ⟨rfl, rfl⟩) | (go_at_call 79; refine (off_any _ _ a0 a1).mono ?_; rintro e w' ⟨rfl, rfl⟩))
    go_ret
    exact ⟨by simp, hb⟩
end Go.Proofs.YtccimkmlbcgekaaGreat
namespace Go.Proofs.YtccimkmlbcgekaaGreat
open Go.RowKit
set_option linter.unusedVariables false
set_option linter.unusedSimpArgs false
set_option maxRecDepth 100000
def mmC (z : Nat → Int) (l : Int) : Array Value := #[.int .u8 (z 0), .int .u8 (z 1), .int .u8 (z 2), .int .u8 (z 3), .int .u8 (z 4), .int .u8 (z 5), .int .u8 (z 6), .int .u8 (z 7), .int .u8 l]
/-- Pages' banks, and what was moved last, lie in g. -/
def MM (w : World) (g : Nat) (z : Nat → Int) (l : Int) : Prop := Blk w g 165 (mmC z l)
theorem mmC_congr {z y : Nat → Int} {l : Int} (h : ∀ i, i < 8 → z i = y i) : mmC z l = mmC y l := by
  unfold mmC
  rw [h 0 (by decide), h 1 (by decide), h 2 (by decide), h 3 (by decide), h 4 (by decide), h 5 (by decide), h 6 (by decide), h 7 (by decide)]
theorem ix8 {z : Nat → Int} {k : IntKind} (q : Nat) (hq : q < 8) (w : World) : (Instr.index 68 (.agg #[.int .u8 (z 0), .int .u8 (z 1), .int .u8 (z 2), .int .u8 (z 3), .int .u8 (z 4), .int .u8 (z 5), .int .u8 (z 6), .int .u8 (z 7)]) (.int k (q : Int))).run Tryz.prog w = .ok (.int .u8 (z q)) w :=
  run_index_agg Tryz.underlying68 (by kernel_rfl) (by omega) (by omega) (iArr_at .u8 8 z q hq) w
section
variable {w w' : World} {g : Nat} {z : Nat → Int} {l : Int} {L : List Nat}
theorem MM.kp (h : MM w g z l) (k : Kp L w w') (hg : g ∉ L) : MM w' g z l := Blk.kp h k hg
theorem MM.below {B : Nat} (h : MM w g z l) (hb : Below B w w') (hg : g < B) : MM w' g z l := Blk.below h hb hg
theorem MM.lt_ (h : MM w g z l) : g < w.heap.size := Blk.lt h
def mmV (z : Nat → Int) (l : Int) (j : Nat) : Value := .int .u8 (if j < 8 then z j else l)
theorem mmC_v (z : Nat → Int) (l : Int) : mmC z l = vArr 9 (mmV z l) := rfl
theorem MM.put8 (h : MM w g z l) (y : Nat → Int) : MM (Go.Proofs.YtccimkmlbcgekaaGreat.put8 w g fun j => .int .u8 (y j)) g y l := by
  have h2 := (((((((Blk.set_ h 0 (.int .u8 (y 0))).set_ 1 (.int .u8 (y 1))).set_ 2 (.int .u8 (y 2))).set_ 3 (.int .u8 (y 3))).set_ 4 (.int .u8 (y 4))).set_ 5 (.int .u8 (y 5))).set_ 6 (.int .u8 (y 6))).set_ 7 (.int .u8 (y 7))
  have e : ((((((((mmC z l).setIfInBounds 0 (.int .u8 (y 0))).setIfInBounds 1 (.int .u8 (y 1))).setIfInBounds 2 (.int .u8 (y 2))).setIfInBounds 3 (.int .u8 (y 3))).setIfInBounds 4 (.int .u8 (y 4))).setIfInBounds 5 (.int .u8 (y 5))).setIfInBounds 6 (.int .u8 (y 6))).setIfInBounds 7 (.int .u8 (y 7)) = mmC y l := by
    rw [mmC_v, mmC_v]
    simp only [vArr_set]
    exact vArr_congr fun i hi => by
      have : i = 0 ∨ i = 1 ∨ i = 2 ∨ i = 3 ∨ i = 4 ∨ i = 5 ∨ i = 6 ∨ i = 7 ∨ i = 8 := by omega
      rcases this with rfl | rfl | rfl | rfl | rfl | rfl | rfl | rfl | rfl <;> rfl
  rw [e] at h2
  exact h2
theorem MM.last_ (h : MM w g z l) (b : Int) : MM (w.setCell ⟨g, 8, none⟩ (.int .u8 b)) g z b := by
  have h2 := Blk.set_ h 8 (.int .u8 b)
  have e : (mmC z l).setIfInBounds 8 (.int .u8 b) = mmC z b := by
    rw [mmC_v, mmC_v, vArr_set]
    exact vArr_congr fun i hi => by
      by_cases e : i = 8
      · subst e; rfl
      · rw [if_neg e]; unfold mmV; rw [if_pos (by omega), if_pos (by omega)]
  rw [e] at h2
  exact h2
theorem kp8 {a : World} (h : Kp L a w) (hg : g ∈ L) (V : Nat → Value) : Kp L a (Go.Proofs.YtccimkmlbcgekaaGreat.put8 w g V) := (((((((h.setCell (p := ⟨g, 0, none⟩) (.inl hg) _).setCell (p := ⟨g, 1, none⟩) (.inl hg) _).setCell (p := ⟨g, 2, none⟩) (.inl hg) _).setCell (p := ⟨g, 3, none⟩) (.inl hg) _).setCell (p := ⟨g, 4, none⟩) (.inl hg) _).setCell (p := ⟨g, 5, none⟩) (.inl hg) _).setCell (p := ⟨g, 6, none⟩) (.inl hg) _).setCell (p := ⟨g, 7, none⟩) (.inl hg) _
/-- What a call that changes pages comes to. -/
def MmR (v : Value) (g : Nat) (z : Nat → Int) (l : Int) (w : World) (e : Ending) (w' : World) : Prop := e = .returned v ∧ MM w' g z l ∧ Kp [g] w w'
def MmN (z : Nat → Int) (l : Int) (w : World) (e : Ending) (w' : World) : Prop := ∃ g, e = .returned (.pointer (some ⟨g, 0, none⟩)) ∧ w.heap.size ≤ g ∧ MM w' g z l ∧ Below w.heap.size w w'
theorem mof_any (z : Nat → Int) (l : Int) (w : World) : Calls Tryz.prog 28 #[.agg #[.int .u8 (z 0), .int .u8 (z 1), .int .u8 (z 2), .int .u8 (z 3), .int .u8 (z 4), .int .u8 (z 5), .int .u8 (z 6), .int .u8 (z 7)], .int .u8 l] w (MmN z l w) := by
  have hB : Below w.heap.size w ((w.alloc (.cells #[.int .u8 (z 0), .int .u8 (z 1), .int .u8 (z 2), .int .u8 (z 3), .int .u8 (z 4), .int .u8 (z 5), .int .u8 (z 6), .int .u8 (z 7)] 68)).alloc (.cells #[.int .u8 (z 0), .int .u8 (z 1), .int .u8 (z 2), .int .u8 (z 3), .int .u8 (z 4), .int .u8 (z 5), .int .u8 (z 6), .int .u8 (z 7), .int .u8 l] 165)) := ((Below.refl _ w).alloc (Nat.le_refl _) _).alloc (by simp) _
  have h1 : MM ((w.alloc (.cells #[.int .u8 (z 0), .int .u8 (z 1), .int .u8 (z 2), .int .u8 (z 3), .int .u8 (z 4), .int .u8 (z 5), .int .u8 (z 6), .int .u8 (z 7)] 68)).alloc (.cells #[.int .u8 (z 0), .int .u8 (z 1), .int .u8 (z 2), .int .u8 (z 3), .int .u8 (z 4), .int .u8 (z 5), .int .u8 (z 6), .int .u8 (z 7), .int .u8 l] 165)) (w.heap.size + 1) z l := Blk.new_ (by simp)
  have HB := Lib.hid hB
  have H1 := Lib.hid h1
  clear hB h1
  go_enter Tryz.func28, Tryz.ntmps28
  go_wp2
  go_ret
  exact ⟨_, rfl, by omega, H1.out, HB.out⟩
theorem banks_any (h : MM w g z l) : Calls Tryz.prog 84 #[.pointer (some ⟨g, 0, none⟩)] w fun e w' => e = .returned (.agg (p8 z)) ∧ Below w.heap.size w w' := by
  have c0 : w.cell? ⟨g, 0, none⟩ = some (.int .u8 (z 0)) := h.cell 0
  have c1 : w.cell? ⟨g, 1, none⟩ = some (.int .u8 (z 1)) := h.cell 1
  have c2 : w.cell? ⟨g, 2, none⟩ = some (.int .u8 (z 2)) := h.cell 2
  have c3 : w.cell? ⟨g, 3, none⟩ = some (.int .u8 (z 3)) := h.cell 3
  have c4 : w.cell? ⟨g, 4, none⟩ = some (.int .u8 (z 4)) := h.cell 4
  have c5 : w.cell? ⟨g, 5, none⟩ = some (.int .u8 (z 5)) := h.cell 5
  have c6 : w.cell? ⟨g, 6, none⟩ = some (.int .u8 (z 6)) := h.cell 6
  have c7 : w.cell? ⟨g, 7, none⟩ = some (.int .u8 (z 7)) := h.cell 7
  have c8 : w.cell? ⟨g, 8, none⟩ = some (.int .u8 l) := h.cell 8
  have hB : Below w.heap.size w (w.alloc (.cells #[.int .u8 (z 0), .int .u8 (z 1), .int .u8 (z 2), .int .u8 (z 3), .int .u8 (z 4), .int .u8 (z 5), .int .u8 (z 6), .int .u8 (z 7)] 68)) := (Below.refl _ w).alloc (Nat.le_refl _) _
  have hl := h.lt_
  have HB := Lib.hid hB
  clear hB h
  go_enter Tryz.func84, Tryz.ntmps84
  go_wp2
  refine bodyPost_ret (v := .agg (p8 z)) (results_cell (a := ⟨w.heap.size, 0, none⟩) Tryz.results84 (by rfl) ((Blk.new w 68 (p8 z)).run_load Tryz.underlying68 rfl info8)) rfl ?_
  exact ⟨rfl, HB.out⟩
theorem banks_nil (w : World) : Calls Tryz.prog 84 #[.pointer none] w fun e w' => e = .returned (.agg (p8 fun _ => 0)) ∧ Below w.heap.size w w' := by
  have hB : Below w.heap.size w (w.alloc (.cells (p8 fun _ => 0) 68)) := (Below.refl _ w).alloc (Nat.le_refl _) _
  have HB := Lib.hid hB
  clear hB
  go_enter Tryz.func84, Tryz.ntmps84
  go_wp2
  refine bodyPost_ret (v := .agg (p8 fun _ => 0)) (results_cell (a := ⟨w.heap.size, 0, none⟩) Tryz.results84 (by rfl) ((Blk.new w 68 (p8 fun _ => 0)).run_load Tryz.underlying68 rfl info8)) rfl ?_
  exact ⟨rfl, HB.out⟩
/-- The physical address of a logical one. -/
def phI (z : Nat → Int) (a : Int) : Int := z (a.toNat / 8192) * 8192 + a % 8192
theorem mphys_of {p : Option Addr} (hb : Calls Tryz.prog 84 #[.pointer p] w fun e w' => e = .returned (.agg (p8 z)) ∧ Below w.heap.size w w') (hz : ∀ i, i < 8 → 0 ≤ z i ∧ z i ≤ 255) (a : Int) (a0 : 0 ≤ a) (a1 : a ≤ 65535) :
    Calls Tryz.prog 29 #[.pointer p, .int .u16 a] w fun e w' => e = .returned (.int .u32 (phI z a)) ∧ Below w.heap.size w w' := by
  have HBK := Lib.hid hb
  obtain ⟨q, hq⟩ : ∃ q, a.toNat / 8192 = q := ⟨_, rfl⟩
  have hq8 : q < 8 := by omega
  have hqw : IntKind.u16.wrap (a.tdiv 8192) = (q : Int) := by rw [Int.tdiv_eq_ediv_of_nonneg a0, IntWalk.u16_in _ (by omega)]; omega
  obtain ⟨b0, b1⟩ := hz q hq8
  have hix := ix8 (z := z) (k := .u16) q hq8
  have hr : phI z a = z q * 8192 + a % 8192 := by unfold phI; rw [hq]
  have HR := Lib.hid hr
  have HZ := Lib.hid (hz q hq8)
  rw [hr]
  clear hb hq hz hr
  go_enter Tryz.func29, Tryz.ntmps29
  go_wp2_with fail
  refine HBK.out.mono ?_
  rw [show p8 z = #[.int .u8 (z 0), .int .u8 (z 1), .int .u8 (z 2), .int .u8 (z 3), .int .u8 (z 4), .int .u8 (z 5), .int .u8 (z 6), .int .u8 (z 7)] from rfl]
  rintro e w1 ⟨rfl, b1⟩
  have HB1 := Lib.hid b1
  clear b1
  go_wp2_with fail
  refine (addr_any (z q) a _ HZ.out.1 HZ.out.2 a0 a1).mono ?_
  rintro e w' ⟨rfl, rfl⟩
  go_wp2_with fail
  go_ret
  exact ⟨rfl, HB1.out⟩
end
end Go.Proofs.YtccimkmlbcgekaaGreat
