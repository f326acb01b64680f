/-
  Texts of these proofs, one behind the other: Bus7, Cart6, MR.
-/
import Derived.Test.YtleofglnlfpoeaaGreatKBP28
import Derived.Test.YtleofglnlfpoeaaGreatKBP32
import Derived.Test.YtleofglnlfpoeaaGreatKBP17
import Derived.Test.YtleofglnlfpoeaaGreatKBP27
import Derived.Test.YtleofglnlfpoeaaGreatKBP04
import Derived.Test.YtleofglnlfpoeaaGreatKBP03
import Derived.Deep.QuietTactic
import Derived.BigQuiet
import Derived.WalkSmall
namespace Go.Proofs.YtleofglnlfpoeaaGreat
open Go.RowKit
set_option linter.unusedVariables false
set_option linter.unusedSimpArgs false
set_option maxRecDepth 100000
/-- A budget, held. -/
def bud (n : Int) : Int := if 1099511627776 < (if n < 0 then 0 else n) then 1099511627776 else if n < 0 then 0 else n
theorem bud_bd (n : Int) : 0 ≤ bud n ∧ bud n ≤ 1099511627776 := by unfold bud; (repeat' split) <;> omega
def Bs.new (rv : Value) (rn : Nat) (rz : Nat → Int) (x : Hp) (b : Int) : Bs := ⟨0, 0, false, false, false, rv, rn, rz, fun _ => 0, x, bud b, false, []⟩
/-- What New leaves: a bus of its own, on the page that was there. -/
def BnR (p : Nat) (d : Hd) (b : Hb) (x : Hp) (rn : Nat) (rz : Nat → Int) (bu : Int) (w : World) (e : Ending) (w' : World) : Prop :=
  ∃ g m rv, e = .returned (.pointer (some ⟨g, 0, none⟩)) ∧ w.heap.size ≤ g ∧ w.heap.size ≤ m ∧ BU w' g d ⟨m, none, p, b, .slice none 0 0⟩ (Bs.new rv rn rz x bu) ∧ Below w.heap.size w w'
set_option maxHeartbeats 8000000 in
theorem bnew_any {w : World} {p : Nat} {d : Hd} {b : Hb} {x : Hp} (hp : HP w p d b x) {A : Option Addr} {n c : Nat} {z : Nat → Int} (hA : A = none → n = 0 ∧ c = 0) (hm : n ≤ 140737488355328) (R : IRow w .u8 A n z) (bu : Int) :
    Calls Tryz.prog 7 #[.slice A n c, .pointer (some ⟨p, 0, none⟩), .int .i64 bu] w (BnR p d b x n z bu w) := by
  have HPP := Lib.hid hp
  have HR := Lib.hid R
  have HA := Lib.hid hA
  clear hp R hA
  obtain ⟨l, hl⟩ : ∃ l, bud bu = l := ⟨_, rfl⟩
  have HL := Lib.hid hl
  unfold bud at hl
  go_enter Tryz.func7, Tryz.ntmps7
  go_upto_region 1 with fail
  refine rg_begin (S := fun w' => True) 13 #[false, false, false, false, false, false, false, false, false, false, false, false, false] (by kernel_rfl) (by kernel_rfl) (by kernel_rfl) ?_ (fun hHeld => ?_)
  · all_goals trivial
  have HP0 := Lib.hid (HPP.out.kp0 (Kp.refl _ _).drew)
  have HR0 : Hid (IRow w.drew .u8 A n z) := Lib.hid HR.out
  have HB0 : Hid (Below w.heap.size w w.drew) := Lib.hid (Below.refl _ _).drew
  clear HPP HR
  generalize World.drew w = w0 at *
  refine rgt 3 (some 10) (v := ?_) rfl ?_ ?_
  rotate_left 1
  · (intro wS hSw; (try dsimp only at hSw); go_simp; try with_reducible rfl)
  refine rgt 6 (some 13) (v := ?_) rfl ?_ ?_
  rotate_left 1
  · (intro wS hSw; (try dsimp only at hSw); go_simp; try with_reducible rfl)
  refine rgt 7 (some 14) (v := ?_) rfl ?_ ?_
  rotate_left 1
  · (intro wS hSw; (try dsimp only at hSw); go_simp; try with_reducible rfl)
  refine rgt 8 (some 15) (v := ?_) rfl ?_ ?_
  rotate_left 1
  · (intro wS hSw; (try dsimp only at hSw); go_simp; try with_reducible rfl)
  refine rgt 9 (some 16) (v := ?_) rfl ?_ ?_
  rotate_left 1
  · (intro wS hSw; (try dsimp only at hSw); go_simp; try with_reducible rfl)
  try simp only [Act.put, List.setIfInBounds_toArray, List.set_cons_zero, List.set_cons_succ]
  try rw [hl]
  clear hl
  obtain ⟨gc, hgc⟩ : ∃ gc, w0.heap.size = gc := ⟨_, rfl⟩
  refine rg_next (i := 0) (l := #[true, false, false, true, false, false, true, true, true, true, false, false, false]) (fuel := 7) (by kernel_rfl) rfl (by kernel_rfl) (by kernel_rfl) (fun K hK => ?_)
  go_simp
  (go_at_call 40)
  refine (cknew_any w0).mono ?_
  rw [hgc]
  rintro e w1 ⟨rfl, hc1, b1⟩
  rw [← hgc] at b1
  have HC1 : Hid (Blk w1 gc 119 #[.int .i64 0, .int .i64 0, .bool false, .bool false, .bool false]) := Lib.hid hc1
  have HP1 := Lib.hid (HP0.out.keep b1)
  have HR1 := Lib.hid (HR0.out.keep b1)
  have HB1 := Lib.hid (HB0.out.trans (b1.mono HB0.out.size))
  clear hc1 b1 hgc
  first | (refine hK.out _ _ ?_ (fun hHeld => ?_)) | (go_wp2_with fail; refine hK.out _ _ ?_ (fun hHeld => ?_))
  · (try dsimp only); all_goals trivial
  clear hK K
  refine rgt 1 (some 8) (v := ?_) rfl ?_ ?_
  rotate_left 1
  · (intro wS hSw; (try dsimp only at hSw); go_simp; try with_reducible rfl)
  try simp only [Act.put, List.setIfInBounds_toArray, List.set_cons_zero, List.set_cons_succ]
  refine rg_more (S' := fun w' => Blk w' gc 119 #[.int .i64 0, .int .i64 0, .bool false, .bool false, .bool false]) (fun w h => trivial) _ _ _ _ ?_
  clear hHeld
  have hHeld : (fun w' : World => Blk w' gc 119 #[.int .i64 0, .int .i64 0, .bool false, .bool false, .bool false]) _ := HC1.out
  refine rgt 2 (some 9) (v := .agg #[.int .i64 0, .int .i64 0, .bool false, .bool false, .bool false]) rfl ?_ ?_
  · (intro wS hSw; (try dsimp only at hSw); exact exec_load_row 119 (.tmp 8) rfl gc rfl 119 #[.int .i64 0, .int .i64 0, .bool false, .bool false, .bool false] (0, 0) _ hSw Tryz.underlying119 rfl (by kernel_rfl))
  try simp only [Act.put, List.setIfInBounds_toArray, List.set_cons_zero, List.set_cons_succ]
  refine rg_next (i := 4) (l := #[true, true, true, true, true, false, true, true, true, true, false, false, false]) (fuel := 4) (by kernel_rfl) rfl (by kernel_rfl) (by kernel_rfl) (fun K hK => ?_)
  go_simp
  (go_at_call 41)
  refine (sclone_any A n c z HA.out hm HR1.out).mono ?_
  rintro e w2 ⟨v, rfl, hs2, b2⟩
  obtain ⟨A', cap, rfl, s1, s2, s3, s4, s5⟩ := hs2
  have HS2 : Hid (SliceB w2 w2.heap.size (.slice A' n cap) n z) := Lib.hid ⟨A', cap, rfl, s1, s2, s3, s4, s5⟩
  have HC2 := Lib.hid (HC1.out.below b2 HC1.out.lt)
  have HP2 := Lib.hid (HP1.out.keep b2)
  have HB2 := Lib.hid (HB1.out.trans (b2.mono HB1.out.size))
  clear b2 s1 s2 s3 s4 s5
  first | (refine hK.out _ _ ?_ (fun hHeld => ?_)) | (go_wp2_with fail; refine hK.out _ _ ?_ (fun hHeld => ?_))
  · (try dsimp only); exact HC2.out
  clear hK K
  try simp only [Act.put, List.setIfInBounds_toArray, List.set_cons_zero, List.set_cons_succ]
  obtain ⟨m, hgm⟩ : ∃ m, w2.heap.size = m := ⟨_, rfl⟩
  refine rg_next (i := 5) (l := #[true, true, true, true, true, true, true, true, true, true, false, false, false]) (fuel := 3) (by kernel_rfl) rfl (by kernel_rfl) (by kernel_rfl) (fun K hK => ?_)
  go_simp
  (go_at_call 42)
  refine (rnew_any w2).mono ?_
  rw [hgm]
  rintro e w3 ⟨rfl, hr3, b3⟩
  rw [← hgm] at b3
  have HM3 := Lib.hid hr3
  have HC3 := Lib.hid (HC2.out.below b3 HC2.out.lt)
  have HP3 := Lib.hid (HP2.out.keep b3)
  have HS3 := Lib.hid (HS2.out.keep b3)
  have HS23 := Lib.hid b3.size
  have HB3 := Lib.hid (HB2.out.trans (b3.mono HB2.out.size))
  have hmw : w.heap.size ≤ m := by rw [← hgm]; exact HB2.out.size
  clear hr3 b3 hgm
  first | (refine hK.out _ _ ?_ (fun hHeld => ?_)) | (go_wp2_with fail; refine hK.out _ _ ?_ (fun hHeld => ?_))
  · (try dsimp only); exact HC3.out
  clear hK K
  refine rgt 10 (some 17) (v := ?_) rfl ?_ ?_
  rotate_left 1
  · (intro wS hSw; (try dsimp only at hSw); go_simp; try with_reducible rfl)
  try simp only [Act.put, List.setIfInBounds_toArray, List.set_cons_zero, List.set_cons_succ]
  have HC4 := Lib.hid (HC3.out.alloc (.cells #[.int .i64 0, .int .i64 0, .bool false, .bool false, .bool false, .slice A' n cap, .pointer (some ⟨m, 0, none⟩), .pointer (some ⟨p, 0, none⟩), .int .i64 l, .bool false, .slice none 0 0] 126))
  refine rg_next (i := 11) (l := #[true, true, true, true, true, true, true, true, true, true, true, true, false]) (fuel := 1) (by kernel_rfl) rfl (by kernel_rfl) (by kernel_rfl) (fun K hK => ?_)
  go_simp
  skip
  first | (refine hK.out _ _ ?_ (fun hHeld => ?_)) | (go_wp2_with fail; refine hK.out _ _ ?_ (fun hHeld => ?_))
  · (try dsimp only); exact HC4.out
  clear hK K
  refine rgt 12 (some 6) (v := ?_) rfl ?_ ?_
  rotate_left 1
  · (intro wS hSw; (try dsimp only at hSw); go_simp; try with_reducible rfl)
  try simp only [Act.put, List.setIfInBounds_toArray, List.set_cons_zero, List.set_cons_succ]
  refine wpAnyH_done (by kernel_rfl) ?_ _
  clear hHeld
  have k4 : Kp [] w3 (w3.alloc (.cells #[.int .i64 0, .int .i64 0, .bool false, .bool false, .bool false, .slice A' n cap, .pointer (some ⟨m, 0, none⟩), .pointer (some ⟨p, 0, none⟩), .int .i64 l, .bool false, .slice none 0 0] 126)) := (Kp.refl _ _).alloc _
  have b4 : Below w3.heap.size w3 (w3.alloc (.cells #[.int .i64 0, .int .i64 0, .bool false, .bool false, .bool false, .slice A' n cap, .pointer (some ⟨m, 0, none⟩), .pointer (some ⟨p, 0, none⟩), .int .i64 l, .bool false, .slice none 0 0] 126)) := (Below.refl _ _).alloc (Nat.le_refl _) _
  have hbl := bud_bd bu
  have hs23 : w2.heap.size ≤ w3.heap.size := HS23.out
  have HBU : Hid (BU (w3.alloc (.cells #[.int .i64 0, .int .i64 0, .bool false, .bool false, .bool false, .slice A' n cap, .pointer (some ⟨m, 0, none⟩), .pointer (some ⟨p, 0, none⟩), .int .i64 l, .bool false, .slice none 0 0] 126)) w3.heap.size d ⟨m, none, p, b, .slice none 0 0⟩ (Bs.new (.slice A' n cap) n z x bu)) := Lib.hid ⟨by unfold buC buK Bs.new; dsimp only [buR]; rw [HL.out]; exact Blk.new_ rfl, HM3.out.keep b4, HP3.out.keep b4, (HS3.out.mono hs23).keep b4, World.ownsRow_nil _ _ _ _, ⟨Int.le_refl 0, Int.le_refl 0, hbl.1, hbl.2, fun i _ => ⟨Int.le_refl 0, (by decide : (0 : Int) ≤ 255)⟩⟩⟩
  have HB4 : Hid (Below w.heap.size w (w3.alloc (.cells #[.int .i64 0, .int .i64 0, .bool false, .bool false, .bool false, .slice A' n cap, .pointer (some ⟨m, 0, none⟩), .pointer (some ⟨p, 0, none⟩), .int .i64 l, .bool false, .slice none 0 0] 126))) := Lib.hid (HB3.out.alloc HB3.out.size _)
  have hgw := HB3.out.size
  clear k4 b4 hbl
  go_wp2_with fail
  all_goals
    go_ret
    exact ⟨_, m, _, rfl, hgw, hmw, HBU.out, HB4.out⟩
end Go.Proofs.YtleofglnlfpoeaaGreat
namespace Go.Proofs.YtleofglnlfpoeaaGreat
open Go.RowKit
set_option linter.unusedVariables false
/-- How many bytes, from the first one on, are 0, or aren't. -/
def AheadAt (z : Nat → Int) (n : Nat) (zero : Bool) (k : Nat) : Prop := k ≤ n ∧ (∀ j, j < k → (z j == 0) = zero) ∧ (k < n → (z k == 0) = !zero)
set_option maxHeartbeats 2000000 in
theorem ahead_any {w : World} (A : Option Addr) (n c : Nat) (z : Nat → Int) (zero : Bool) (hn : n ≤ maxLen) (R : IRow w .u8 A n z) :
    Calls Tryz.prog 168 #[.slice A n c, .bool zero] w fun e w' => (∃ k : Nat, e = .returned (.int .i64 k) ∧ AheadAt z n zero k) ∧ w = w' := by
  unfold maxLen at hn
  cases zero
  · go_enter Tryz.func168, Tryz.ntmps168
    go_wp2_with fail
    go_loop [9] (fun i => ∃ k : Nat, k ≤ n ∧ i = .int .i64 k ∧ Hid (∀ j, j < k → (z j == 0) = false)) (fun i => n - (intOf i).toNat)
    case atStart => exact ⟨0, by omega, rfl, Lib.hid (fun j h => absurd h (by omega))⟩
    case round =>
      obtain ⟨k, hk, rfl, H⟩ := hrel
      by_cases hlt : k < n
      · obtain ⟨ad, rfl, hl, hc, hw⟩ := R k hlt
        clear hw hl
        rcases Bool.eq_false_or_eq_true (z k == 0) with e | e
        · have HE := Lib.hid e
          go_wp2_with fail
          go_ret
          exact ⟨⟨k, rfl, hk, H.out, fun _ => HE.out⟩, rfl⟩
        · have HE := Lib.hid e
          go_wp2_with fail
          go_round
          case rel => exact ⟨k + 1, by omega, by go_num, Lib.hid (fun j hj => by rcases Nat.lt_or_ge j k with h | h; exact H.out j h; rw [show j = k by omega]; exact HE.out)⟩
          case measure => simp [intOf]; omega
      · obtain rfl : k = n := by omega
        go_wp2_with fail
        go_ret
        exact ⟨⟨k, rfl, hk, H.out, fun h => absurd h (by omega)⟩, rfl⟩
  · go_enter Tryz.func168, Tryz.ntmps168
    go_wp2_with fail
    go_loop [9] (fun i => ∃ k : Nat, k ≤ n ∧ i = .int .i64 k ∧ Hid (∀ j, j < k → (z j == 0) = true)) (fun i => n - (intOf i).toNat)
    case atStart => exact ⟨0, by omega, rfl, Lib.hid (fun j h => absurd h (by omega))⟩
    case round =>
      obtain ⟨k, hk, rfl, H⟩ := hrel
      by_cases hlt : k < n
      · obtain ⟨ad, rfl, hl, hc, hw⟩ := R k hlt
        clear hw hl
        rcases Bool.eq_false_or_eq_true (z k == 0) with e | e
        · have HE := Lib.hid e
          go_wp2_with fail
          go_round
          case rel => exact ⟨k + 1, by omega, by go_num, Lib.hid (fun j hj => by rcases Nat.lt_or_ge j k with h | h; exact H.out j h; rw [show j = k by omega]; exact HE.out)⟩
          case measure => simp [intOf]; omega
        · have HE := Lib.hid e
          go_wp2_with fail
          go_ret
          exact ⟨⟨k, rfl, hk, H.out, fun _ => HE.out⟩, rfl⟩
      · obtain rfl : k = n := by omega
        go_wp2_with fail
        go_ret
        exact ⟨⟨k, rfl, hk, H.out, fun h => absurd h (by omega)⟩, rfl⟩
theorem ne_self (x : Int) : (x != x) = false := by simp
set_option maxHeartbeats 2000000 in
theorem same_yes {w : World} (A B : Option Addr) (n c d : Nat) (z : Nat → Int) (hn : n ≤ maxLen) (R : IRow w .u8 A n z) (Q : IRow w .u8 B n z) :
    Calls Tryz.prog 94 #[.slice A n c, .slice B n d] w fun e w' => e = .returned (.bool true) ∧ Below w.heap.size w w' := by
  unfold maxLen at hn
  have n0 : ((n : Int) != n) = false := by simp
  go_enter Tryz.func94, Tryz.ntmps94
  go_wp2_with fail
  clear n0
  go_loopw [5] (fun i wr => ∃ k : Nat, k ≤ n ∧ i = .int .i64 k ∧ wr.heap = w.heap ∧ Below w.heap.size w wr) (fun i _ => n - (intOf i).toNat)
  case atStart => exact ⟨0, by omega, rfl, rfl, Below.refl _ _⟩
  case round =>
    obtain ⟨k, hk, rfl, hh, hB⟩ := hrel
    have HH := Lib.hid hh
    clear hh
    by_cases hlt : k < n
    · obtain ⟨a1, rfl, _, x1, _⟩ := R k hlt
      obtain ⟨a2, rfl, _, x2, _⟩ := Q k hlt
      have x1' : wr.cell? (a1.add k) = _ := (World.cell?_of_block (by rw [HH.out])).trans x1
      have x2' : wr.cell? (a2.add k) = _ := (World.cell?_of_block (by rw [HH.out])).trans x2
      have NS := ne_self (z k)
      clear x1 x2
      generalize z k = V at *
      go_wp2_with fail
      go_quiet (fail)
      go_wp2_with fail
      go_roundw
      case rel => exact ⟨k + 1, by omega, by go_num, HH.out, below_drewN hB _⟩
      case measure => simp [intOf]; omega
    · obtain rfl : k = n := by omega
      go_wp2_with fail
      go_ret
      exact ⟨rfl, hB⟩
end Go.Proofs.YtleofglnlfpoeaaGreat
namespace Go.Proofs.YtleofglnlfpoeaaGreat
open Go.RowKit
set_option linter.unusedVariables false
/-- The rows of bytes that aren't 0 among the first i bytes: where each begins, and how long it is. -/
def runs (z : Nat → Int) : Nat → List (Nat × Nat)
  | 0 => []
  | i + 1 => if z i = 0 then runs z i else if 0 < i ∧ z (i - 1) ≠ 0 then (runs z i).dropLast ++ [(((runs z i).getLastD (0, 0)).1, ((runs z i).getLastD (0, 0)).2 + 1)] else runs z i ++ [(i, 1)]
theorem runs_len (z : Nat → Int) (i : Nat) : (runs z i).length ≤ i := by
  induction i with
  | zero => simp [runs]
  | succ i ih =>
    simp only [runs]
    split
    · omega
    · split
      · rename_i h
        have : 0 < (runs z i).length ∨ (runs z i).length = 0 := by omega
        rw [List.length_append, List.length_dropLast]; simp; omega
      · simp; omega
theorem runs_zero (z : Nat → Int) (e f : Nat) (h : e ≤ f) (hz : ∀ j, e ≤ j → j < f → z j = 0) : runs z f = runs z e := by
  induction f with
  | zero => rw [show e = 0 by omega]
  | succ f ih =>
    rcases Nat.lt_or_ge e (f + 1) with h1 | h1
    · simp only [runs]
      rw [if_pos (hz f (by omega) (by omega))]
      exact ih (by omega) fun j a b => hz j a (by omega)
    · rw [show e = f + 1 by omega]
theorem runs_succ (z : Nat → Int) (i : Nat) : runs z (i + 1) = if z i = 0 then runs z i else if 0 < i ∧ z (i - 1) ≠ 0 then (runs z i).dropLast ++ [(((runs z i).getLastD (0, 0)).1, ((runs z i).getLastD (0, 0)).2 + 1)] else runs z i ++ [(i, 1)] := rfl
theorem runs_block (z : Nat → Int) (f d : Nat) (hf : f = 0 ∨ z (f - 1) = 0) (hz : ∀ j, j < d + 1 → z (f + j) ≠ 0) : runs z (f + (d + 1)) = runs z f ++ [(f, d + 1)] := by
  induction d with
  | zero =>
    have h0 : z f ≠ 0 := hz 0 (by omega)
    rw [show f + (0 + 1) = f + 1 from rfl, runs_succ, if_neg h0, if_neg (by rintro ⟨a, b⟩; rcases hf with h | h; omega; exact b h)]
  | succ d ih =>
    have h1 := ih fun j hj => hz j (by omega)
    rw [show f + (d + 1 + 1) = (f + (d + 1)) + 1 from rfl, runs_succ, if_neg (hz (d + 1) (by omega)), if_pos ⟨by omega, by rw [show f + (d + 1) - 1 = f + d by omega]; exact hz d (by omega)⟩, h1]
    simp
end Go.Proofs.YtleofglnlfpoeaaGreat
