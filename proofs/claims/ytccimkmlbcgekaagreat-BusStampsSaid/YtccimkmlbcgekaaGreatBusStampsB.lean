/-
  For every input BusStamps returns true, and each argument reads behind the call as it read before. No conditions.
-/
import Derived.Test.YtccimkmlbcgekaaGreatRows
import Derived.Test.YtccimkmlbcgekaaGreatKA01
import Derived.Test.YtccimkmlbcgekaaGreatKA37
import Derived.Test.YtccimkmlbcgekaaGreatKA38
namespace Go.Proofs.YtccimkmlbcgekaaGreat.busStamps
open Go.ChangeShapes Go.WideShapes Go.ChangeAt Go.RowKit
open Go.ChangeMaps (open_string)

set_option linter.unusedVariables false
set_option linter.unusedSimpArgs false
set_option maxRecDepth 100000 in
set_option maxHeartbeats 8000000 in
theorem walk {W : World} (A1 : Option Addr) (n1 c1 : Nat) (q1 : Nat → Nat → Value) (hnc1 : n1 ≤ c1) (hm1 : c1 ≤ maxLen) (R1 : FRow W 4 A1 n1 q1) (F1 : ∀ i, i < n1 → ∀ (j : Nat) (k : FK), [FK.int .u8, .int .u32, .int .u8, .int .u8][j]? = some k → k.ok (q1 i j)) (bu : Int) (wbu : (Lit.int .u8 bu).wf = true) :
    Calls Tryz.prog 4 #[.slice A1 n1 c1, .int .u8 bu] W fun e w' => e = .returned (.bool true) ∧ Below W.heap.size W w' := by
  obtain ⟨b0, b1⟩ := bounds_u8 wbu
  have HR1 := Lib.hid R1
  have HF1 := Lib.hid F1
  unfold maxLen at hm1
  clear R1 F1 wbu
  go_enter Tryz.func4, Tryz.ntmps4
  go_wp2_with fail
  refine (live19 _).mono ?_
  rintro e w1 ⟨rfl, b1'⟩
  have HB1 := Lib.hid b1'
  clear b1'
  by_cases h100 : 100 < n1
  · have j0 : (100 : Int) < n1 := by omega
    go_wp2_with fail
    go_ret
    exact ⟨rfl, HB1.out⟩
  have j0 : ¬ (100 : Int) < n1 := by omega
  go_wp2_with fail
  refine (hnew_none _).mono ?_
  rintro e w2 ⟨p, b, rfl, hg2, hp2, b2⟩
  have HB2 := Lib.hid (HB1.out.trans (b2.mono HB1.out.size))
  have HP2 := Lib.hid hp2
  have hpl : W.heap.size ≤ p ∧ W.heap.size ≤ b.v ∧ W.heap.size ≤ b.c ∧ W.heap.size ≤ b.p := by have := HB1.out.size; omega
  clear hp2 b2 hg2
  go_upto_region 6 with fail
  have hb3 : Below W.heap.size W (w2.alloc (.cells #[.int .i64 0, .int .i64 0] 34)) := HB2.out.alloc HB2.out.size _
  have hp3 : HP (w2.alloc (.cells #[.int .i64 0, .int .i64 0] 34)) p d0 b Hp.new := HP2.out.kp0 ((Kp.refl _ _).alloc _)
  have b23 : Below w2.heap.size w2 (w2.alloc (.cells #[.int .i64 0, .int .i64 0] 34)) := (Below.refl _ _).alloc (Nat.le_refl _) _
  generalize w2.heap.size = gf at *
  generalize World.alloc w2 _ = w3 at *
  have HB3 := Lib.hid hb3
  have HP3 := Lib.hid hp3
  clear hb3 hp3 HB2 HP2
  go_wp2_with fail
  refine (bnew_any (A := none) (n := 0) (c := 0) (z := fun _ => 0) HP3.out (fun _ => ⟨rfl, rfl⟩) (by omega) (fun i hi => absurd hi (by omega)) bu).mono ?_
  rintro e w5 r5
  obtain ⟨g, Q, rv, rfl, t5, -, -⟩ := BT.new HB3.out HB3.out.size hpl r5
  have hbud : bud bu = bu := by unfold bud; rw [if_neg (by split <;> omega), if_neg (by omega)]
  have hs0 : SI bu (Bs.new rv 0 (fun _ => 0) Hp.new bu) 0 := ⟨by show bud bu = bu - 0; rw [hbud]; omega, by show (0 : Int) = _; rw [if_neg (by omega)]; rfl, SG.nil, fun _ => rfl, by show 0 ≤ bud bu; rw [hbud]; exact b0⟩
  have T0 := Lib.hid t5
  have S0 := Lib.hid hs0
  have R0 : Hid ((Bs.new rv 0 (fun _ => 0) Hp.new bu).room 0) := Lib.hid room_new
  clear t5 r5 HB3 HP3 hpl hs0 hbud b23
  go_wp2_with fail
  go_loopw [8, 9] (fun cc i wr => ∃ k c : Nat, k ≤ n1 ∧ c ≤ k ∧ i = .int .i64 k ∧ cc = .int .i64 c ∧ ∃ Q s, BT W.heap.size W wr g d0 Q s ∧ SI bu s c ∧ s.room k) (fun _ i wr => n1 - (intOf i).toNat)
  case atStart => exact ⟨0, 0, by omega, by omega, rfl, rfl, _, _, T0.out, S0.out, R0.out⟩
  case round =>
    obtain ⟨k, c, hk, hck, rfl, rfl, Q5, s, hT, hS, hR⟩ := hrel
    have T5 := Lib.hid hT
    have S5 := Lib.hid hS
    have R5 := Lib.hid hR
    clear T0 S0 R0
    by_cases hlt : k < n1
    · obtain ⟨ad, rfl, hl, p0, p1, p2, p3⟩ := fkCells4 (FRow.keep HR1.out hT.bw) k hlt
      obtain ⟨wh, e0, v0⟩ := HF1.out k hlt 0 _ rfl
      obtain ⟨a, e1, v1⟩ := HF1.out k hlt 1 _ rfl
      obtain ⟨v, e2, v2⟩ := HF1.out k hlt 2 _ rfl
      obtain ⟨kd, e3, v3⟩ := HF1.out k hlt 3 _ rfl
      rw [e0] at p0
      rw [e1] at p1
      rw [e2] at p2
      rw [e3] at p3
      obtain ⟨h0, h0'⟩ := bounds_u8 v0
      obtain ⟨a0, a1⟩ := bounds_u32 v1
      obtain ⟨u0, u1⟩ := bounds_u8 v2
      obtain ⟨k0, k1⟩ := bounds_u8 v3
      have i0 : (0 : Int) ≤ (k : Int) := by omega
      have i1 : (k : Int) < n1 := by omega
      have hk1000 : k ≤ 1000 := by omega
      obtain ⟨t, ht⟩ : ∃ t, wh % 8 = t := ⟨_, rfl⟩
      have hmod : wh.tmod 8 = t := by rw [Int.tmod_eq_emod_of_nonneg h0, ht]
      have htc : (t = 0 ∨ t = 1 ∨ t = 2) ∨ (t = 3 ∨ t = 4) ∨ t = 5 ∨ (t = 6 ∨ t = 7) := by omega
      have E1 := Lib.hid e1
      have E2 := Lib.hid e2
      have E3 := Lib.hid e3
      have wc : IntKind.i64.wrap ((c : Int) + 1) = (c : Int) + 1 := IntWalk.i64_in _ (by omega)
      clear hT hS hR v0 v1 v2 v3 e0 e1 e2 e3 ht
      rcases htc with h | h | rfl | h
      · rcases h with rfl | rfl | rfl
        all_goals
          go_upto_region 16 with fail
          refine rg_begin (S := fun w' => w'.cell? ⟨(ad.add (k * 4)).block, (ad.add (k * 4)).off + 1, none⟩ = some (.int .u32 a) ∧ w'.cell? ⟨(ad.add (k * 4)).block, (ad.add (k * 4)).off + 2, none⟩ = some (.int .u8 v) ∧ w'.cell? ⟨(ad.add (k * 4)).block, (ad.add (k * 4)).off + 3, none⟩ = some (.int .u8 kd)) 12 #[false, false, false, false, false, false, false, false, false, false, false, false] (by kernel_rfl) (by kernel_rfl) (by kernel_rfl) ?_ (fun hHeld => ?_)
          · exact ⟨p1, p2, p3⟩
          refine rg_take (i := 0) (d := some 46) (l := #[true, false, false, false, false, false, false, false, false, false, false, false]) (fuel := 11) (v := ?_) rfl (by kernel_rfl) (by kernel_rfl) (by kernel_rfl) (by kernel_rfl) (by kernel_rfl) (fun _ _ _ h => h) (by kernel_rfl) ?_ (by assumption) ?_
          rotate_left 1
          · (intro wS hSw; (try dsimp only at hSw); go_simp; try with_reducible rfl)
          try simp only [Act.put, List.setIfInBounds_toArray, List.set_cons_zero, List.set_cons_succ]
          refine rg_take (i := 1) (d := some 47) (l := #[true, true, false, false, false, false, false, false, false, false, false, false]) (fuel := 10) (v := ?_) rfl (by kernel_rfl) (by kernel_rfl) (by kernel_rfl) (by kernel_rfl) (by kernel_rfl) (fun _ _ _ h => h) (by kernel_rfl) ?_ (by assumption) ?_
          rotate_left 1
          · (intro wS hSw; (try dsimp only at hSw); go_simp; try with_reducible rfl)
          try simp only [Act.put, List.setIfInBounds_toArray, List.set_cons_zero, List.set_cons_succ]
          refine rg_take (i := 2) (d := some 48) (l := #[true, true, true, false, false, false, false, false, false, false, false, false]) (fuel := 9) (v := ?_) rfl (by kernel_rfl) (by kernel_rfl) (by kernel_rfl) (by kernel_rfl) (by kernel_rfl) (fun _ _ _ h => h) (by kernel_rfl) ?_ (by assumption) ?_
          rotate_left 1
          · (intro wS hSw; (try dsimp only at hSw); go_simp; try with_reducible rfl)
          try simp only [Act.put, List.setIfInBounds_toArray, List.set_cons_zero, List.set_cons_succ]
          refine rg_take (i := 3) (d := some 49) (l := #[true, true, true, true, false, false, false, false, false, false, false, false]) (fuel := 8) (v := ?_) rfl (by kernel_rfl) (by kernel_rfl) (by kernel_rfl) (by kernel_rfl) (by kernel_rfl) (fun _ _ _ h => h) (by kernel_rfl) ?_ (by assumption) ?_
          rotate_left 1
          · (intro wS hSw; (try dsimp only at hSw); go_simp; try with_reducible rfl)
          try simp only [Act.put, List.setIfInBounds_toArray, List.set_cons_zero, List.set_cons_succ]
          refine rg_take (i := 4) (d := some 50) (l := #[true, true, true, true, true, false, false, false, false, false, false, false]) (fuel := 7) (v := ?_) rfl (by kernel_rfl) (by kernel_rfl) (by kernel_rfl) (by kernel_rfl) (by kernel_rfl) (fun _ _ _ h => h) (by kernel_rfl) ?_ (by assumption) ?_
          rotate_left 1
          · (intro wS hSw; (try dsimp only at hSw); go_simp; try with_reducible rfl)
          try simp only [Act.put, List.setIfInBounds_toArray, List.set_cons_zero, List.set_cons_succ]
          refine rg_take (i := 5) (d := some 51) (l := #[true, true, true, true, true, true, false, false, false, false, false, false]) (fuel := 6) (v := ?_) rfl (by kernel_rfl) (by kernel_rfl) (by kernel_rfl) (by kernel_rfl) (by kernel_rfl) (fun _ _ _ h => h) (by kernel_rfl) ?_ (by assumption) ?_
          rotate_left 1
          · (intro wS hSw; (try dsimp only at hSw); go_simp; try with_reducible rfl)
          try simp only [Act.put, List.setIfInBounds_toArray, List.set_cons_zero, List.set_cons_succ]
          refine rg_take (i := 6) (d := some 52) (l := #[true, true, true, true, true, true, true, false, false, false, false, false]) (fuel := 5) (v := ?_) rfl (by kernel_rfl) (by kernel_rfl) (by kernel_rfl) (by kernel_rfl) (by kernel_rfl) (fun _ _ _ h => h) (by kernel_rfl) ?_ (by assumption) ?_
          rotate_left 1
          · (intro wS hSw; (try dsimp only at hSw); go_simp; try with_reducible rfl)
          try simp only [Act.put, List.setIfInBounds_toArray, List.set_cons_zero, List.set_cons_succ]
          refine rg_take (i := 7) (d := some 53) (l := #[true, true, true, true, true, true, true, true, false, false, false, false]) (fuel := 4) (v := ?_) rfl (by kernel_rfl) (by kernel_rfl) (by kernel_rfl) (by kernel_rfl) (by kernel_rfl) (fun _ _ _ h => h) (by kernel_rfl) ?_ (by assumption) ?_
          rotate_left 1
          · (intro wS hSw; (try dsimp only at hSw); go_simp; try with_reducible rfl)
          try simp only [Act.put, List.setIfInBounds_toArray, List.set_cons_zero, List.set_cons_succ]
          refine rg_take (i := 8) (d := some 54) (l := #[true, true, true, true, true, true, true, true, true, false, false, false]) (fuel := 3) (v := ?_) rfl (by kernel_rfl) (by kernel_rfl) (by kernel_rfl) (by kernel_rfl) (by kernel_rfl) (fun _ _ _ h => h) (by kernel_rfl) ?_ (by assumption) ?_
          rotate_left 1
          · (intro wS hSw; (try dsimp only at hSw); go_simp; try with_reducible rfl)
          try simp only [Act.put, List.setIfInBounds_toArray, List.set_cons_zero, List.set_cons_succ]
          refine rg_take (i := 9) (d := some 55) (l := #[true, true, true, true, true, true, true, true, true, true, false, false]) (fuel := 2) (v := ?_) rfl (by kernel_rfl) (by kernel_rfl) (by kernel_rfl) (by kernel_rfl) (by kernel_rfl) (fun _ _ _ h => h) (by kernel_rfl) ?_ (by assumption) ?_
          rotate_left 1
          · (intro wS hSw; (try dsimp only at hSw); go_simp; try with_reducible rfl)
          try simp only [Act.put, List.setIfInBounds_toArray, List.set_cons_zero, List.set_cons_succ]
          refine rg_take (i := 10) (d := some 56) (l := #[true, true, true, true, true, true, true, true, true, true, true, false]) (fuel := 1) (v := ?_) rfl (by kernel_rfl) (by kernel_rfl) (by kernel_rfl) (by kernel_rfl) (by kernel_rfl) (fun _ _ _ h => h) (by kernel_rfl) ?_ (by assumption) ?_
          rotate_left 1
          · (intro wS hSw; (try dsimp only at hSw); go_simp; try with_reducible rfl)
          try simp only [Act.put, List.setIfInBounds_toArray, List.set_cons_zero, List.set_cons_succ]
          refine rg_next (i := 11) (l := #[true, true, true, true, true, true, true, true, true, true, true, true]) (fuel := 0) (by kernel_rfl) rfl (by kernel_rfl) (by kernel_rfl) (fun K hK => ?_)
          go_simp
          (go_at_call 20)
          refine (bread_SI (T5.out.kp0 (Kp.refl [] _).drew).u S5.out R5.out hk1000 a kd a0 a1).mono ?_
          rintro e w6 ⟨vr, rfl, s6, r6, si6, ro6⟩
          obtain ⟨Q6, -, t6, -⟩ := (T5.out.kp0 (Kp.refl [] _).drew).go r6
          have T6 := Lib.hid t6
          have S6 := Lib.hid si6
          have R6 := Lib.hid ro6
          obtain ⟨ad9, e9, -, p0, p1, p2, p3⟩ := fkCells4 (FRow.keep HR1.out t6.bw) k hlt
          obtain rfl := Option.some.inj e9
          rw [E1.out] at p1
          rw [E2.out] at p2
          rw [E3.out] at p3
          clear r6 si6 ro6 t6 p0
          first | (refine hK.out _ _ ?_ (fun hHeld => ?_)) | (go_wp2_with fail; refine hK.out _ _ ?_ (fun hHeld => ?_))
          · (try dsimp only); exact ⟨p1, p2, p3⟩
          clear hK K
          try simp only [Act.put, List.setIfInBounds_toArray, List.set_cons_zero, List.set_cons_succ]
          refine wpAnyH_done (by kernel_rfl) ?_ _
          clear hHeld
          go_wp2_with fail
          go_roundw
          case rel => exact ⟨k + 1, c + 1, by omega, by omega, by go_num, by go_num, Q6, _, T6.out, S6.out, R6.out⟩
          case measure => simp [intOf]; omega
      · rcases h with rfl | rfl
        all_goals
          go_upto_region 20 with fail
          refine rg_begin (S := fun w' => w'.cell? ⟨(ad.add (k * 4)).block, (ad.add (k * 4)).off + 1, none⟩ = some (.int .u32 a) ∧ w'.cell? ⟨(ad.add (k * 4)).block, (ad.add (k * 4)).off + 2, none⟩ = some (.int .u8 v) ∧ w'.cell? ⟨(ad.add (k * 4)).block, (ad.add (k * 4)).off + 3, none⟩ = some (.int .u8 kd)) 17 #[false, false, false, false, false, false, false, false, false, false, false, false, false, false, false, false, false] (by kernel_rfl) (by kernel_rfl) (by kernel_rfl) ?_ (fun hHeld => ?_)
          · exact ⟨p1, p2, p3⟩
          refine rg_take (i := 0) (d := some 63) (l := #[true, false, false, false, false, false, false, false, false, false, false, false, false, false, false, false, false]) (fuel := 16) (v := ?_) rfl (by kernel_rfl) (by kernel_rfl) (by kernel_rfl) (by kernel_rfl) (by kernel_rfl) (fun _ _ _ h => h) (by kernel_rfl) ?_ (by assumption) ?_
          rotate_left 1
          · (intro wS hSw; (try dsimp only at hSw); go_simp; try with_reducible rfl)
          try simp only [Act.put, List.setIfInBounds_toArray, List.set_cons_zero, List.set_cons_succ]
          refine rg_take (i := 1) (d := some 64) (l := #[true, true, false, false, false, false, false, false, false, false, false, false, false, false, false, false, false]) (fuel := 15) (v := ?_) rfl (by kernel_rfl) (by kernel_rfl) (by kernel_rfl) (by kernel_rfl) (by kernel_rfl) (fun _ _ _ h => h) (by kernel_rfl) ?_ (by assumption) ?_
          rotate_left 1
          · (intro wS hSw; (try dsimp only at hSw); go_simp; try with_reducible rfl)
          try simp only [Act.put, List.setIfInBounds_toArray, List.set_cons_zero, List.set_cons_succ]
          refine rg_take (i := 2) (d := some 65) (l := #[true, true, true, false, false, false, false, false, false, false, false, false, false, false, false, false, false]) (fuel := 14) (v := ?_) rfl (by kernel_rfl) (by kernel_rfl) (by kernel_rfl) (by kernel_rfl) (by kernel_rfl) (fun _ _ _ h => h) (by kernel_rfl) ?_ (by assumption) ?_
          rotate_left 1
          · (intro wS hSw; (try dsimp only at hSw); go_simp; try with_reducible rfl)
          try simp only [Act.put, List.setIfInBounds_toArray, List.set_cons_zero, List.set_cons_succ]
          refine rg_take (i := 3) (d := some 66) (l := #[true, true, true, true, false, false, false, false, false, false, false, false, false, false, false, false, false]) (fuel := 13) (v := ?_) rfl (by kernel_rfl) (by kernel_rfl) (by kernel_rfl) (by kernel_rfl) (by kernel_rfl) (fun _ _ _ h => h) (by kernel_rfl) ?_ (by assumption) ?_
          rotate_left 1
          · (intro wS hSw; (try dsimp only at hSw); go_simp; try with_reducible rfl)
          try simp only [Act.put, List.setIfInBounds_toArray, List.set_cons_zero, List.set_cons_succ]
          refine rg_take (i := 4) (d := some 67) (l := #[true, true, true, true, true, false, false, false, false, false, false, false, false, false, false, false, false]) (fuel := 12) (v := ?_) rfl (by kernel_rfl) (by kernel_rfl) (by kernel_rfl) (by kernel_rfl) (by kernel_rfl) (fun _ _ _ h => h) (by kernel_rfl) ?_ (by assumption) ?_
          rotate_left 1
          · (intro wS hSw; (try dsimp only at hSw); go_simp; try with_reducible rfl)
          try simp only [Act.put, List.setIfInBounds_toArray, List.set_cons_zero, List.set_cons_succ]
          refine rg_take (i := 5) (d := some 68) (l := #[true, true, true, true, true, true, false, false, false, false, false, false, false, false, false, false, false]) (fuel := 11) (v := ?_) rfl (by kernel_rfl) (by kernel_rfl) (by kernel_rfl) (by kernel_rfl) (by kernel_rfl) (fun _ _ _ h => h) (by kernel_rfl) ?_ (by assumption) ?_
          rotate_left 1
          · (intro wS hSw; (try dsimp only at hSw); go_simp; try with_reducible rfl)
          try simp only [Act.put, List.setIfInBounds_toArray, List.set_cons_zero, List.set_cons_succ]
          refine rg_take (i := 6) (d := some 69) (l := #[true, true, true, true, true, true, true, false, false, false, false, false, false, false, false, false, false]) (fuel := 10) (v := ?_) rfl (by kernel_rfl) (by kernel_rfl) (by kernel_rfl) (by kernel_rfl) (by kernel_rfl) (fun _ _ _ h => h) (by kernel_rfl) ?_ (by assumption) ?_
          rotate_left 1
          · (intro wS hSw; (try dsimp only at hSw); go_simp; try with_reducible rfl)
          try simp only [Act.put, List.setIfInBounds_toArray, List.set_cons_zero, List.set_cons_succ]
          refine rg_take (i := 7) (d := some 70) (l := #[true, true, true, true, true, true, true, true, false, false, false, false, false, false, false, false, false]) (fuel := 9) (v := ?_) rfl (by kernel_rfl) (by kernel_rfl) (by kernel_rfl) (by kernel_rfl) (by kernel_rfl) (fun _ _ _ h => h) (by kernel_rfl) ?_ (by assumption) ?_
          rotate_left 1
          · (intro wS hSw; (try dsimp only at hSw); go_simp; try with_reducible rfl)
          try simp only [Act.put, List.setIfInBounds_toArray, List.set_cons_zero, List.set_cons_succ]
          refine rg_take (i := 8) (d := some 71) (l := #[true, true, true, true, true, true, true, true, true, false, false, false, false, false, false, false, false]) (fuel := 8) (v := ?_) rfl (by kernel_rfl) (by kernel_rfl) (by kernel_rfl) (by kernel_rfl) (by kernel_rfl) (fun _ _ _ h => h) (by kernel_rfl) ?_ (by assumption) ?_
          rotate_left 1
          · (intro wS hSw; (try dsimp only at hSw); go_simp; try with_reducible rfl)
          try simp only [Act.put, List.setIfInBounds_toArray, List.set_cons_zero, List.set_cons_succ]
          refine rg_take (i := 9) (d := some 72) (l := #[true, true, true, true, true, true, true, true, true, true, false, false, false, false, false, false, false]) (fuel := 7) (v := ?_) rfl (by kernel_rfl) (by kernel_rfl) (by kernel_rfl) (by kernel_rfl) (by kernel_rfl) (fun _ _ _ h => h) (by kernel_rfl) ?_ (by assumption) ?_
          rotate_left 1
          · (intro wS hSw; (try dsimp only at hSw); go_simp; try with_reducible rfl)
          try simp only [Act.put, List.setIfInBounds_toArray, List.set_cons_zero, List.set_cons_succ]
          refine rg_take (i := 10) (d := some 73) (l := #[true, true, true, true, true, true, true, true, true, true, true, false, false, false, false, false, false]) (fuel := 6) (v := ?_) rfl (by kernel_rfl) (by kernel_rfl) (by kernel_rfl) (by kernel_rfl) (by kernel_rfl) (fun _ _ _ h => h) (by kernel_rfl) ?_ (by assumption) ?_
          rotate_left 1
          · (intro wS hSw; (try dsimp only at hSw); go_simp; try with_reducible rfl)
          try simp only [Act.put, List.setIfInBounds_toArray, List.set_cons_zero, List.set_cons_succ]
          refine rg_take (i := 11) (d := some 74) (l := #[true, true, true, true, true, true, true, true, true, true, true, true, false, false, false, false, false]) (fuel := 5) (v := ?_) rfl (by kernel_rfl) (by kernel_rfl) (by kernel_rfl) (by kernel_rfl) (by kernel_rfl) (fun _ _ _ h => h) (by kernel_rfl) ?_ (by assumption) ?_
          rotate_left 1
          · (intro wS hSw; (try dsimp only at hSw); go_simp; try with_reducible rfl)
          try simp only [Act.put, List.setIfInBounds_toArray, List.set_cons_zero, List.set_cons_succ]
          refine rg_take (i := 12) (d := some 75) (l := #[true, true, true, true, true, true, true, true, true, true, true, true, true, false, false, false, false]) (fuel := 4) (v := ?_) rfl (by kernel_rfl) (by kernel_rfl) (by kernel_rfl) (by kernel_rfl) (by kernel_rfl) (fun _ _ _ h => h) (by kernel_rfl) ?_ (by assumption) ?_
          rotate_left 1
          · (intro wS hSw; (try dsimp only at hSw); go_simp; try with_reducible rfl)
          try simp only [Act.put, List.setIfInBounds_toArray, List.set_cons_zero, List.set_cons_succ]
          refine rg_take (i := 13) (d := some 76) (l := #[true, true, true, true, true, true, true, true, true, true, true, true, true, true, false, false, false]) (fuel := 3) (v := ?_) rfl (by kernel_rfl) (by kernel_rfl) (by kernel_rfl) (by kernel_rfl) (by kernel_rfl) (fun _ _ _ h => h) (by kernel_rfl) ?_ (by assumption) ?_
          rotate_left 1
          · (intro wS hSw; (try dsimp only at hSw); go_simp; try with_reducible rfl)
          try simp only [Act.put, List.setIfInBounds_toArray, List.set_cons_zero, List.set_cons_succ]
          refine rg_take (i := 14) (d := some 77) (l := #[true, true, true, true, true, true, true, true, true, true, true, true, true, true, true, false, false]) (fuel := 2) (v := ?_) rfl (by kernel_rfl) (by kernel_rfl) (by kernel_rfl) (by kernel_rfl) (by kernel_rfl) (fun _ _ _ h => h) (by kernel_rfl) ?_ (by assumption) ?_
          rotate_left 1
          · (intro wS hSw; (try dsimp only at hSw); go_simp; try with_reducible rfl)
          try simp only [Act.put, List.setIfInBounds_toArray, List.set_cons_zero, List.set_cons_succ]
          refine rg_take (i := 15) (d := some 78) (l := #[true, true, true, true, true, true, true, true, true, true, true, true, true, true, true, true, false]) (fuel := 1) (v := ?_) rfl (by kernel_rfl) (by kernel_rfl) (by kernel_rfl) (by kernel_rfl) (by kernel_rfl) (fun _ _ _ h => h) (by kernel_rfl) ?_ (by assumption) ?_
          rotate_left 1
          · (intro wS hSw; (try dsimp only at hSw); go_simp; try with_reducible rfl)
          try simp only [Act.put, List.setIfInBounds_toArray, List.set_cons_zero, List.set_cons_succ]
          refine rg_next (i := 16) (l := #[true, true, true, true, true, true, true, true, true, true, true, true, true, true, true, true, true]) (fuel := 0) (by kernel_rfl) rfl (by kernel_rfl) (by kernel_rfl) (fun K hK => ?_)
          go_simp
          (go_at_call 21)
          refine (bwrite_SI (T5.out.kp0 (Kp.refl [] _).drew).u S5.out R5.out hk1000 a v kd a0 a1 u0 u1).mono ?_
          rintro e w6 ⟨rfl, s6, r6, si6, ro6⟩
          obtain ⟨Q6, -, t6, -⟩ := (T5.out.kp0 (Kp.refl [] _).drew).go r6
          have T6 := Lib.hid t6
          have S6 := Lib.hid si6
          have R6 := Lib.hid ro6
          obtain ⟨ad9, e9, -, p0, p1, p2, p3⟩ := fkCells4 (FRow.keep HR1.out t6.bw) k hlt
          obtain rfl := Option.some.inj e9
          rw [E1.out] at p1
          rw [E2.out] at p2
          rw [E3.out] at p3
          clear r6 si6 ro6 t6 p0
          first | (refine hK.out _ _ ?_ (fun hHeld => ?_)) | (go_wp2_with fail; refine hK.out _ _ ?_ (fun hHeld => ?_))
          · (try dsimp only); exact ⟨p1, p2, p3⟩
          clear hK K
          try simp only [Act.put, List.setIfInBounds_toArray, List.set_cons_zero, List.set_cons_succ]
          refine wpAnyH_done (by kernel_rfl) ?_ _
          clear hHeld
          go_wp2_with fail
          go_roundw
          case rel => exact ⟨k + 1, c + 1, by omega, by omega, by go_num, by go_num, Q6, _, T6.out, S6.out, R6.out⟩
          case measure => simp [intOf]; omega
      · have hm2 : kd.tmod 2 = kd % 2 := Int.tmod_eq_emod_of_nonneg k0
        obtain ⟨x, hx⟩ : ∃ x, (kd % 2 == 1) = x := ⟨_, rfl⟩
        clear p1 p2
        go_wp2_with fail
        refine (bask_any T5.out.u x).mono ?_
        rintro e w6 r6
        obtain ⟨Q6, rfl, t6, -⟩ := T5.out.go r6
        have T6 := Lib.hid t6
        have S6 := Lib.hid (S5.out.ask x)
        clear t6 r6 p3
        go_wp2_with fail
        go_roundw
        case rel => exact ⟨k + 1, c, by omega, by omega, by go_num, rfl, Q6, _, T6.out, S6.out, room_mono (s := { s with asked := true, next := x }) R5.out (by omega)⟩
        case measure => simp [intOf]; omega
      · rcases h with rfl | rfl
        all_goals
          clear p1 p2 p3
          go_wp2_with fail
          refine (bturn_any T5.out.u S5.out.tidy).mono ?_
          rintro e w6 r6
          obtain ⟨Q6, rfl, t6, -⟩ := T5.out.go r6
          have T6 := Lib.hid t6
          have S6 := Lib.hid S5.out.turn
          clear t6 r6
          go_wp2_with fail
          go_roundw
          case rel => exact ⟨k + 1, c, by omega, by omega, by go_num, rfl, Q6, _, T6.out, S6.out, room_mono (room_tn R5.out) (by omega)⟩
          case measure => simp [intOf]; omega
    · obtain rfl : k = n1 := by omega
      have i0 : ¬ (k : Int) < (k : Int) := by omega
      clear hT hS hR
      go_wp2_with fail
      refine (btrace_any T5.out.u (by have := R5.out.2.2.2; omega)).mono ?_
      obtain ⟨tl, htl⟩ : ∃ tl, s.tl = tl := ⟨_, rfl⟩
      have hcnt := S5.out.cnt
      have hleft := S5.out.left
      have hsg := S5.out.sg
      have hrm := R5.out.2.2.2
      rw [htl] at hcnt hleft hsg hrm ⊢
      rintro e w7 ⟨A, cap, rfl, hc1, hc2, hrow, -, -, b7⟩
      have T7 := Lib.hid (T5.out.on b7)
      have HROW := Lib.hid hrow
      have SGG := Lib.hid hsg
      obtain ⟨m, hm⟩ : ∃ m, tl.length = m := ⟨_, rfl⟩
      rw [hm] at hcnt hleft hc1 hrm ⊢
      have HM := Lib.hid hm
      have HL := Lib.hid hleft
      have hmin : (if bu < (c : Int) then bu else (c : Int)) = (m : Int) := hcnt.symm
      have nn : ((m : Int) != (m : Int)) = false := by simp
      have n2 : ((bu - (m : Int)) != (bu - (m : Int))) = false := by simp
      clear b7 hrow hsg hcnt hleft T5 S5 R5 htl hm
      go_wp2_with fail
      refine (bleft_any T7.out.u).mono ?_
      rw [HL.out]
      rintro e w' ⟨rfl, rfl⟩
      go_wp2_with fail
      clear hmin nn n2
      have hmk : m ≤ 100 := by omega
      go_loopw [11, 12] (fun la i wr => ∃ k : Nat, k ≤ m ∧ i = .int .i64 k ∧ la = .int .i64 (if k = 0 then 0 else bstI tl (k - 1)) ∧ wr = w7) (fun _ i wr => m - (intOf i).toNat)
      case atStart => exact ⟨0, by omega, rfl, rfl, rfl⟩
      case round =>
        obtain ⟨j, hj, rfl, rfl, rfl⟩ := hrel
        by_cases hlj : j < m
        · obtain ⟨ad, rfl, l1, hcell⟩ := HROW.out j (by rw [HM.out]; exact hlj)
          obtain ⟨x0, x1, x2, x3⟩ := SGG.out.b j (by rw [HM.out]; exact hlj)
          have d0 : wr.cell? (ad.add (j * 5)) = some (.int .i64 (bstI tl j)) := hcell 0 (by omega)
          have d1 : wr.cell? ⟨(ad.add (j * 5)).block, (ad.add (j * 5)).off + 1, none⟩ = some (.int .u32 (badI tl j)) := by
            have h := hcell 1 (by omega)
            rw [← add_of_add] at h; exact h
          have g0 : (0 : Int) ≤ (j : Int) := by omega
          have g1 : (j : Int) < (m : Int) := by omega
          have y0 : ¬ (2097152 : Int) ≤ badI tl j := by omega
          have y1 : ¬ 24 * (j : Int) < bstI tl j := by omega
          by_cases hj0 : j = 0
          · subst hj0
            have hz := SGG.out.z (by rw [HM.out]; exact hlj)
            rw [if_pos rfl]
            obtain ⟨q, hq⟩ : ∃ q, badI tl 0 = q := ⟨_, rfl⟩
            rw [hq] at d1 y0
            rw [hz] at d0 y1
            have d0a : wr.cell? ad = some (.int .i64 0) := d0
            have d1a : wr.cell? ⟨ad.block, ad.off + 1, none⟩ = some (.int .u32 q) := d1
            have HZ := Lib.hid hz
            clear hcell x0 x1 x2 x3 hz hq
            go_wp2_with fail
            go_roundw
            case rel => exact ⟨1, by omega, by go_num, by rw [if_neg (by decide)]; show Value.int .i64 0 = .int .i64 (bstI tl 0); rw [HZ.out], by first | rfl | trivial⟩
            case measure => simp [intOf]; omega
          · have hd := SGG.out.d (j - 1) (by rw [HM.out]; omega)
            rw [show j - 1 + 1 = j by omega] at hd
            obtain ⟨w0, _, w2, w3⟩ := SGG.out.b (j - 1) (by rw [HM.out]; omega)
            rw [if_neg hj0]
            have hst : Value.int .i64 (if j + 1 = 0 then 0 else bstI tl (j + 1 - 1)) = .int .i64 (bstI tl j) := by rw [if_neg (by omega), Nat.add_sub_cancel]
            obtain ⟨x, hx⟩ : ∃ x, bstI tl j = x := ⟨_, rfl⟩
            obtain ⟨y, hy⟩ : ∃ y, bstI tl (j - 1) = y := ⟨_, rfl⟩
            obtain ⟨q, hq⟩ : ∃ q, badI tl j = q := ⟨_, rfl⟩
            rw [hx] at hd d0 y1 x2 x3 hst
            rw [hy] at hd w2 w3 ⊢
            rw [hq] at d1 y0
            have g2 : (0 : Int) < (j : Int) := by omega
            have HST := Lib.hid hst
            obtain ⟨dd, hdd⟩ : ∃ dd, x - y = dd := ⟨_, rfl⟩
            have hw : IntKind.i64.wrap (x - y) = dd := by rw [hdd]; exact IntWalk.i64_in _ (by omega)
            rw [hdd] at hd
            clear hcell x0 x1 x2 x3 hx hy hq w0 w2 w3 hst
            rcases hd with rfl | rfl | rfl | rfl
            all_goals
              go_wp2_with fail
              go_roundw
              case rel => exact ⟨j + 1, by omega, by go_num, by rw [HST.out], by first | rfl | trivial⟩
              case measure => simp [intOf]; omega
        · obtain rfl : j = m := by omega
          have g0 : ¬ (j : Int) < (j : Int) := by omega
          go_wp2_with fail
          all_goals
            go_ret
            exact ⟨rfl, T7.out.bw⟩

theorem own : ownKnob Tryz.prog.godebug = none := by kernel_rfl
theorem laidOut : laidOutB Tryz.prog = true := by kernel_rfl
set_option maxRecDepth 100000 in
theorem lifted (os : Os) (started : os.Started) (H : Type) (enc : TypeId × Value → H) :
    ReturnsInHanded {} Tryz.checked os 4 .any (Rows.busStampsSpec.pre6 enc Tryz.prog Tryz.f4 Rows.busStampsRow.domain false) (Rows.busStampsSpec.post enc Tryz.prog Tryz.f4 false true false false) := by
  refine returnsInHanded_of_change (C := Tryz.checked) own started (by kernel_rfl) Tryz.func4
    (ChangeSpec.witness6 (enc := enc) (C := Tryz.checked) false ⟨#[], #[.slice none 0 0, .int .u8 0], []⟩ 8 (by kernel_rfl) (by kernel_rfl) (by kernel_rfl) (by kernel_rfl)) ?_
  intro W base args ds gs before hval0 hW _ _
  have hval : ∀ (j : Nat) t v, Tryz.f4.params[j]? = some t → args[j]? = some v → Value.okWide Tryz.prog W .any base t v := hval0
  have hW' := hW
  obtain ⟨p, q, hA0, hV, rfl, _, _⟩ := hW
  have hA : DataW.TrodAll enc Tryz.prog W 0 (fun _ => true) true Tryz.f4.params.toList args.toList ds p := hA0
  rw [Tryz.params4] at hA hval
  obtain ⟨v0, vs0, d0, ds0, p0, q0, hargs, rfl, rfl, h0, r0⟩ := trodAll_cons hA
  obtain ⟨v1, vs1, d1, ds1, p1, q1, rfl, rfl, rfl, h1, r1⟩ := trodAll_cons r0
  obtain ⟨rfl, rfl, rfl⟩ := trodAll_nil r1
  obtain rfl : args = #[v0, v1] := by cases args; simp_all
  obtain ⟨rfl, rfl⟩ := trodVars_none hV
  obtain ⟨A0, n0, c0, q0, rfl, g0, m0, R0, F0, N0⟩ := slice_fk _ [.int .u8, .int .u32, .int .u8, .int .u8] Tryz.underlying29 Tryz.underlying58 (by kernel_rfl) (by kernel_rfl) rfl (by decide)
    (fun j k h => match j, h with
      | 0, h => by cases h; exact ⟨_, rfl, Tryz.underlying5⟩
      | 1, h => by cases h; exact ⟨_, rfl, Tryz.underlying56⟩
      | 2, h => by cases h; exact ⟨_, rfl, Tryz.underlying5⟩
      | 3, h => by cases h; exact ⟨_, rfl, Tryz.underlying5⟩
      | j + 4, h => by simp at h) (hval 0 29 v0 rfl rfl) h0
  obtain ⟨a1, rfl, rfl, rfl, w1⟩ := open_int Tryz.underlying5 (hval 1 5 v1 rfl rfl) h1
  clear hA0 hval0
  refine (walk A0 n0 c0 q0 g0 m0 R0 F0 a1 w1).mono fun e W' ⟨he, hg⟩ => ?_
  subst he
  exact ⟨_, rfl, law_post rfl Tryz.underlying4 laidOut (by kernel_rfl) rfl hW' rfl hg⟩

theorem over : Rows.busStampsRow.holds Tryz.pinned (OpenSpec.ofChange Rows.busStampsSpec) :=
  OpenClaim.holds_of_wide 4 Tryz.f4 rfl rfl rfl rfl rfl rfl rfl ⟨rfl, rfl, rfl, rfl, rfl⟩ rfl rfl rfl rfl rfl (by kernel_rfl) Tryz.func4 (by kernel_rfl)
    (of_decide_eq_true (by kernel_rfl)) (by unfold Func.isWrapper; first | (rw [if_pos (by decide +kernel)]; kernel_rfl) | (rw [if_neg (by decide +kernel)]; exact ⟨rfl, rfl⟩))
    (fun os started H enc _ => lifted os started H enc)

theorem proved : Rows.BusStampsSaid := over
#print axioms proved
end Go.Proofs.YtccimkmlbcgekaaGreat.busStamps
