/-
  Texts of these proofs, one behind the other: Rtm3.
-/
import Derived.Test.YtmbbcfdeielopaaDoorRRRRKTK36
import Derived.Test.YtmbbcfdeielopaaDoorRRRRKTK26
namespace Go.Proofs.YtmbbcfdeielopaaDoorRRRR
open Go.RowKit
set_option linter.unusedVariables false
set_option linter.unusedSimpArgs false
set_option maxRecDepth 100000
set_option maxHeartbeats 8000000
theorem rin29_0 (S : ByteArray) (w : World) : Calls Tryd.prog 29 #[.string S, .string ⟨#[65, 78, 68, 32, 79, 82, 65, 32, 69, 79, 82, 32, 65, 68, 67]⟩] w fun e w' => e = .returned (.bool (S.toList == [65, 78, 68] || S.toList == [79, 82, 65] || S.toList == [69, 79, 82] || S.toList == [65, 68, 67])) ∧ w = w' :=
  asV (rin29_any S ⟨#[65, 78, 68, 32, 79, 82, 65, 32, 69, 79, 82, 32, 65, 68, 67]⟩ [[65, 78, 68], [79, 82, 65], [69, 79, 82], [65, 68, 67]] 4 rfl (by omega) rfl (fun k hk => by
    have : k = 0 ∨ k = 1 ∨ k = 2 ∨ k = 3 := by omega
    rcases this with rfl | rfl | rfl | rfl <;> rfl) w) (by
    congr 1
    unfold inL
    simp only [List.any_cons, List.any_nil, Bool.or_false, BEq.comm (a := S.toList), Bool.or_assoc])
theorem rin29_1 (S : ByteArray) (w : World) : Calls Tryd.prog 29 #[.string S, .string ⟨#[65, 68, 67, 32, 83, 66, 67]⟩] w fun e w' => e = .returned (.bool (S.toList == [65, 68, 67] || S.toList == [83, 66, 67])) ∧ w = w' :=
  asV (rin29_any S ⟨#[65, 68, 67, 32, 83, 66, 67]⟩ [[65, 68, 67], [83, 66, 67]] 2 rfl (by omega) rfl (fun k hk => by
    have : k = 0 ∨ k = 1 := by omega
    rcases this with rfl | rfl <;> rfl) w) (by
    congr 1
    unfold inL
    simp only [List.any_cons, List.any_nil, Bool.or_false, BEq.comm (a := S.toList), Bool.or_assoc])
theorem rin29_2 (S : ByteArray) (w : World) : Calls Tryd.prog 29 #[.string S, .string ⟨#[66, 82, 65, 32, 66, 83, 82]⟩] w fun e w' => e = .returned (.bool (S.toList == [66, 82, 65] || S.toList == [66, 83, 82])) ∧ w = w' :=
  asV (rin29_any S ⟨#[66, 82, 65, 32, 66, 83, 82]⟩ [[66, 82, 65], [66, 83, 82]] 2 rfl (by omega) rfl (fun k hk => by
    have : k = 0 ∨ k = 1 := by omega
    rcases this with rfl | rfl <;> rfl) w) (by
    congr 1
    unfold inL
    simp only [List.any_cons, List.any_nil, Bool.or_false, BEq.comm (a := S.toList), Bool.or_assoc])
theorem rpl_fin : ∀ b : Fin 256, (rtmP (opN b.val) (opM b.val) (opY b.val : Int) (opZ b.val)).length ≤ 20 ∧ (opM b.val = 19 → (rtmP (opN b.val) (opM b.val) (opY b.val : Int) (opZ b.val)).length = 17) := by decide +kernel
def rpre (b : Nat) (w w2 : World) (g : Nat) (S : ByteArray) (m z y : Int) (k : Bool) : Prop := Blk w2 g 28 #[.string S, .int .u8 m, .int .i64 z, .int .i64 y, .bool k] ∧ Below w.heap.size w w2
theorem rlet_block (b : Nat) (hb : b < 256) (h19 : opM b = 19) (T D K0 : Bool) (n : Int) (hn : n ≤ 1000) (w : World) :
    Calls Tryd.prog 12 #[.int .u8 (b : Int), .bool T, .bool D, .bool K0, .int .i64 n] w fun e w' => e = .returned (.string (mkS (rtmL b T D K0 n))) ∧ Below w.heap.size w w' := by
  obtain ⟨p1, p2⟩ := rpl_fin ⟨b, hb⟩
  dsimp only at p1 p2
  have hO := fun W => rof_any b hb W
  unfold rV at hO
  have hP := fun W => rplain_any b hb W
  obtain ⟨P, hPP⟩ : ∃ P, mkS (rtmP (opN b) (opM b) (opY b : Int) (opZ b)) = P := ⟨_, rfl⟩
  have hPz : P.size ≤ 20 := by rw [← hPP, mkS_size]; exact p1
  rw [hPP] at hP
  obtain ⟨S, hS⟩ : ∃ S, mkS (opN b) = S := ⟨_, rfl⟩
  have hSt : S.toList = opN b := by rw [← hS, mkS_toList]
  rw [hS] at hO
  obtain ⟨m, hm⟩ : ∃ m, opM b = m := ⟨_, rfl⟩
  obtain ⟨k, hk⟩ : ∃ k, opK b = k := ⟨_, rfl⟩
  obtain ⟨y, hy⟩ : ∃ y : Int, (opY b : Int) = y := ⟨_, rfl⟩
  obtain ⟨z, hz⟩ : ∃ z, opZ b = z := ⟨_, rfl⟩
  rw [hm, hk, hy, hz] at hO
  have hPe : P.size = 17 := by rw [← hPP, mkS_size]; exact p2 h19
  have hx : P.extract 0 11 = mkS ((rtmP (opN b) (opM b) (opY b : Int) (opZ b)).take 11) := by rw [← hPP, mkS_ext, List.drop_zero]
  obtain ⟨Z, hZ⟩ : ∃ Z, (rtmP (opN b) (opM b) (opY b : Int) (opZ b)).take 11 = Z := ⟨_, rfl⟩
  have hZl : Z.length ≤ 11 := by rw [← hZ]; exact List.length_take_le _ _
  rw [hZ] at hx
  have hL : rtmL b T D K0 n = Z ++ repL [68, 76, 68, 68, 83, 68] (min (max n 0) 65536).toNat ++ [68, 85, 85, 85, 68, 68] := by
    unfold rtmL
    rw [if_pos h19, ← hZ, h19]
  rw [hL]
  obtain ⟨ANS, hA⟩ : ∃ ANS, mkS (Z ++ repL [68, 76, 68, 68, 83, 68] (min (max n 0) 65536).toNat ++ [68, 85, 85, 85, 68, 68]) = ANS := ⟨_, rfl⟩
  rw [hA]
  have HA := Lib.hid hA
  have hstep : ∀ q : Nat, mkS (Z ++ repL [68, 76, 68, 68, 83, 68] (q + 1)) = mkS (Z ++ repL [68, 76, 68, 68, 83, 68] q) ++ ⟨#[68, 76, 68, 68, 83, 68]⟩ := fun q => by
    show _ = _ ++ mkS [68, 76, 68, 68, 83, 68]
    rw [← mkS_app, List.append_assoc]
    congr 2
    simp [repL, List.replicate_succ']
  have HST := Lib.hid hstep
  have e19 : ((m : Int) == 19) = true := by rw [← hm]; simp [h19]
  have hx0 : P.extract 0 11 = mkS (Z ++ repL [68, 76, 68, 68, 83, 68] 0) := by rw [hx]; simp [repL]
  have HX := Lib.hid hx0
  clear p1 p2 hPP hS hSt hm hk hy hz h19 hb hx hZ hL hstep hx0 hPz hA
  go_enter Tryd.func12, Tryd.ntmps12
  go_wp2_with fail
  refine (hO _).mono ?_
  rintro e w1 ⟨rfl, hb1⟩
  have K : Hid (Blk (w1.alloc (.cells #[.string S, .int .u8 (m : Int), .int .i64 z, .int .i64 y, .bool k] 28)) w1.heap.size 28 #[.string S, .int .u8 (m : Int), .int .i64 z, .int .i64 y, .bool k]) := Lib.hid (Blk.new _ _ _)
  have HB : Hid (Below w.heap.size w (w1.alloc (.cells #[.string S, .int .u8 (m : Int), .int .i64 z, .int .i64 y, .bool k] 28))) := Lib.hid (hb1.alloc hb1.size _)
  obtain ⟨w2, hw2⟩ : ∃ w2, w1.alloc (.cells #[.string S, .int .u8 (m : Int), .int .i64 z, .int .i64 y, .bool k] 28) = w2 := ⟨_, rfl⟩
  rw [hw2] at K HB
  have HW2 := Lib.hid hw2
  clear hb1 hO hw2
  go_upto_region 2 with fail
  rw [HW2.out]
  obtain ⟨g, hg⟩ : ∃ g, w1.heap.size = g := ⟨_, rfl⟩
  rw [hg] at K ⊢
  clear hg HW2
  go_wp2_with fail
  refine (hP _).mono ?_
  rintro e w3 ⟨rfl, hb3⟩
  have K3 := Lib.hid (K.out.below hb3 K.out.lt)
  have HB3 := Lib.hid (HB.out.trans (hb3.mono HB.out.size))
  clear hb3 hP K HB
  have d0 : w3.cell? ⟨g, 0, none⟩ = some (.string S) := K3.out.cell 0
  have d1 : w3.cell? ⟨g, 1, none⟩ = some (.int .u8 (m : Int)) := K3.out.cell 1
  have hP11 : 11 ≤ P.size := by omega
  go_upto_region 5 with fail
  rw [HX.out]
  clear hPe
  go_wp2_with fail
  go_loop [12, 13] (fun s i => ∃ q : Nat, (q : Int) ≤ 1000 ∧ (q : Int) ≤ max n 0 ∧ i = .int .i64 q ∧ s = .string (mkS (Z ++ repL [68, 76, 68, 68, 83, 68] q))) (fun _ i => 1001 - (intOf i).toNat)
  case atStart => exact ⟨0, by omega, by omega, rfl, rfl⟩
  case round =>
    obtain ⟨q, hq1, hq2, rfl, rfl⟩ := hrel
    have hqs : (mkS (Z ++ repL [68, 76, 68, 68, 83, 68] q)).size ≤ 6011 := by rw [mkS_size, List.length_append, repL_len]; simp only [List.length_cons, List.length_nil]; omega
    have R2 := Lib.hid (HST.out q)
    obtain ⟨Q, hQ⟩ : ∃ Q, mkS (Z ++ repL [68, 76, 68, 68, 83, 68] q) = Q := ⟨_, rfl⟩
    rw [hQ] at hqs R2 ⊢
    have HQ := Lib.hid hQ
    clear hQ
    have hq3 : (q : Int) < 65536 := by omega
    by_cases hlt : (q : Int) < n
    · go_wp2_with fail
      go_round
      case rel => exact ⟨q + 1, by omega, by omega, by go_num, by rw [R2.out]⟩
      case measure => simp [intOf]; omega
    · have hqe : (min (max n 0) 65536).toNat = q := by omega
      have HQE := Lib.hid hqe
      clear hqe
      go_wp2_with fail
      go_ret
      have e : Q ++ ⟨#[68, 85, 85, 85, 68, 68]⟩ = ANS := by rw [← HA.out, HQE.out, mkS_app, HQ.out]; rfl
      exact ⟨by rw [← e]; rfl, HB3.out⟩
theorem rlet_oth (b : Nat) (hb : b < 256) (h19 : ¬ opM b = 19) (T D K0 : Bool) (n : Int) (w : World) :
    Calls Tryd.prog 12 #[.int .u8 (b : Int), .bool T, .bool D, .bool K0, .int .i64 n] w fun e w' => e = .returned (.string (mkS (rtmL b T D K0 n))) ∧ Below w.heap.size w w' := by
  obtain ⟨p1, p2⟩ := rpl_fin ⟨b, hb⟩
  dsimp only at p1 p2
  have hO := fun W => rof_any b hb W
  unfold rV at hO
  have hP := fun W => rplain_any b hb W
  obtain ⟨P, hPP⟩ : ∃ P, mkS (rtmP (opN b) (opM b) (opY b : Int) (opZ b)) = P := ⟨_, rfl⟩
  have hPz : P.size ≤ 20 := by rw [← hPP, mkS_size]; exact p1
  rw [hPP] at hP
  obtain ⟨S, hS⟩ : ∃ S, mkS (opN b) = S := ⟨_, rfl⟩
  have hSt : S.toList = opN b := by rw [← hS, mkS_toList]
  rw [hS] at hO
  obtain ⟨m, hm⟩ : ∃ m, opM b = m := ⟨_, rfl⟩
  obtain ⟨k, hk⟩ : ∃ k, opK b = k := ⟨_, rfl⟩
  obtain ⟨y, hy⟩ : ∃ y : Int, (opY b : Int) = y := ⟨_, rfl⟩
  obtain ⟨z, hz⟩ : ∃ z, opZ b = z := ⟨_, rfl⟩
  rw [hm, hk, hy, hz] at hO
  have i1 := fun W => rin29_0 S W
  have i2 := fun W => rin29_1 S W
  have i3 := fun W => rin29_2 S W
  have hL : rtmL b T D K0 n = rtmP (opN b) (opM b) (opY b : Int) (opZ b) ++ rtmX S.toList m T D K0 := by
    unfold rtmL
    rw [if_neg h19, hSt, hm]
  rw [hL, mkS_app, hPP]
  have hX : rtmX S.toList m T D K0 = (if T && (S.toList == [65, 78, 68] || S.toList == [79, 82, 65] || S.toList == [69, 79, 82] || S.toList == [65, 68, 67]) then [76, 68, 83] else []) ++ (if D && (S.toList == [65, 68, 67] || S.toList == [83, 66, 67]) then [68] else []) ++
    (if K0 && (m == 12 || m == 11 && !(S.toList == [66, 82, 65] || S.toList == [66, 83, 82])) then [68, 68] else []) := rfl
  obtain ⟨c1, hc1⟩ : ∃ c, (S.toList == [65, 78, 68] || S.toList == [79, 82, 65] || S.toList == [69, 79, 82] || S.toList == [65, 68, 67]) = c := ⟨_, rfl⟩
  rw [hc1] at i1 hX
  clear hc1
  obtain ⟨c2, hc2⟩ : ∃ c, (S.toList == [65, 68, 67] || S.toList == [83, 66, 67]) = c := ⟨_, rfl⟩
  rw [hc2] at i2 hX
  clear hc2
  obtain ⟨c3, hc3⟩ : ∃ c, (S.toList == [66, 82, 65] || S.toList == [66, 83, 82]) = c := ⟨_, rfl⟩
  rw [hc3] at i3 hX
  clear hc3
  rw [hX]
  clear hX
  obtain ⟨ANS, hA⟩ : ∃ ANS, P ++ mkS ((if T && c1 then [76, 68, 83] else []) ++ (if D && c2 then [68] else []) ++ (if K0 && (m == 12 || m == 11 && !c3) then [68, 68] else [])) = ANS := ⟨_, rfl⟩
  rw [hA]
  have HA := Lib.hid hA
  clear hA
  have e19 : ((m : Int) == 19) = false := by rw [← hm]; simp; omega
  clear p1 p2 hPP hS hSt hm hk hy hz h19 hb hL
  go_enter Tryd.func12, Tryd.ntmps12
  go_wp2_with fail
  refine (hO _).mono ?_
  rintro e w1 ⟨rfl, hb1⟩
  have K : Hid (Blk (w1.alloc (.cells #[.string S, .int .u8 (m : Int), .int .i64 z, .int .i64 y, .bool k] 28)) w1.heap.size 28 #[.string S, .int .u8 (m : Int), .int .i64 z, .int .i64 y, .bool k]) := Lib.hid (Blk.new _ _ _)
  have HB : Hid (Below w.heap.size w (w1.alloc (.cells #[.string S, .int .u8 (m : Int), .int .i64 z, .int .i64 y, .bool k] 28))) := Lib.hid (hb1.alloc hb1.size _)
  obtain ⟨w2, hw2⟩ : ∃ w2, w1.alloc (.cells #[.string S, .int .u8 (m : Int), .int .i64 z, .int .i64 y, .bool k] 28) = w2 := ⟨_, rfl⟩
  rw [hw2] at K HB
  have HW2 := Lib.hid hw2
  clear hb1 hO hw2
  go_upto_region 2 with fail
  rw [HW2.out]
  obtain ⟨g, hg⟩ : ∃ g, w1.heap.size = g := ⟨_, rfl⟩
  rw [hg] at K ⊢
  clear hg HW2
  go_wp2_with fail
  refine (hP _).mono ?_
  rintro e w3 ⟨rfl, hb3⟩
  have K3 := Lib.hid (K.out.below hb3 K.out.lt)
  have HB3 := Lib.hid (HB.out.trans (hb3.mono HB.out.size))
  clear hb3 hP K HB
  have d0 : w3.cell? ⟨g, 0, none⟩ = some (.string S) := K3.out.cell 0
  have d1 : w3.cell? ⟨g, 1, none⟩ = some (.int .u8 (m : Int)) := K3.out.cell 1
  have HPN : Hid (P ++ mkS [] = P) := Lib.hid (by rw [← mkS_of P, ← mkS_app, List.append_nil])
  have k12 : m = 12 ∨ m = 11 ∨ (m ≠ 12 ∧ m ≠ 11) := by omega
  rcases k12 with rfl | rfl | ⟨n12, n11⟩
  · have start : True := trivial
    cases T with
    | false =>
      cases D with
      | false =>
        cases K0 with
        | false =>
          go_wp2_with (first | (go_at_call 29; (with_reducible refine (i1 _).mono ?_); rintro e w' ⟨rfl, rfl⟩) | (go_at_call 29; (with_reducible refine (i2 _).mono ?_); rintro e w' ⟨rfl, rfl⟩) | (go_at_call 29; (with_reducible refine (i3 _).mono ?_); rintro e w' ⟨rfl, rfl⟩))
          go_ret
          refine ⟨?_, HB3.out⟩
          rw [← HA.out]
          (try simp only [Bool.true_and, Bool.false_and, Bool.and_true, Bool.and_false, Bool.not_true, Bool.not_false, Bool.or_false, Bool.false_or, if_true, if_false, Bool.false_eq_true, List.append_nil, List.nil_append, beq_self_eq_true, Bool.true_or])
          first
            | rfl
            | (rw [HPN.out]; rfl)
            | (simp only [ByteArray.append_assoc]; rfl)
            | (simp only [mkS_app, ← ByteArray.append_assoc, HPN.out]; rfl)
            | (simp only [show ((11 : Nat) == 12) = false from rfl, show ((11 : Nat) == 11) = true from rfl, Bool.true_and, Bool.false_and, Bool.false_or, Bool.true_or, if_true, if_false, Bool.false_eq_true, List.append_nil, mkS_app, ← ByteArray.append_assoc, HPN.out]; rfl)
        | true =>
          go_wp2_with (first | (go_at_call 29; (with_reducible refine (i1 _).mono ?_); rintro e w' ⟨rfl, rfl⟩) | (go_at_call 29; (with_reducible refine (i2 _).mono ?_); rintro e w' ⟨rfl, rfl⟩) | (go_at_call 29; (with_reducible refine (i3 _).mono ?_); rintro e w' ⟨rfl, rfl⟩))
          go_ret
          refine ⟨?_, HB3.out⟩
          rw [← HA.out]
          (try simp only [Bool.true_and, Bool.false_and, Bool.and_true, Bool.and_false, Bool.not_true, Bool.not_false, Bool.or_false, Bool.false_or, if_true, if_false, Bool.false_eq_true, List.append_nil, List.nil_append, beq_self_eq_true, Bool.true_or])
          first
            | rfl
            | (rw [HPN.out]; rfl)
            | (simp only [ByteArray.append_assoc]; rfl)
            | (simp only [mkS_app, ← ByteArray.append_assoc, HPN.out]; rfl)
            | (simp only [show ((11 : Nat) == 12) = false from rfl, show ((11 : Nat) == 11) = true from rfl, Bool.true_and, Bool.false_and, Bool.false_or, Bool.true_or, if_true, if_false, Bool.false_eq_true, List.append_nil, mkS_app, ← ByteArray.append_assoc, HPN.out]; rfl)
      | true =>
        cases c2 with
        | false =>
          cases K0 with
          | false =>
            go_wp2_with (first | (go_at_call 29; (with_reducible refine (i1 _).mono ?_); rintro e w' ⟨rfl, rfl⟩) | (go_at_call 29; (with_reducible refine (i2 _).mono ?_); rintro e w' ⟨rfl, rfl⟩) | (go_at_call 29; (with_reducible refine (i3 _).mono ?_); rintro e w' ⟨rfl, rfl⟩))
            go_ret
            refine ⟨?_, HB3.out⟩
            rw [← HA.out]
            (try simp only [Bool.true_and, Bool.false_and, Bool.and_true, Bool.and_false, Bool.not_true, Bool.not_false, Bool.or_false, Bool.false_or, if_true, if_false, Bool.false_eq_true, List.append_nil, List.nil_append, beq_self_eq_true, Bool.true_or])
            first
              | rfl
              | (rw [HPN.out]; rfl)
              | (simp only [ByteArray.append_assoc]; rfl)
              | (simp only [mkS_app, ← ByteArray.append_assoc, HPN.out]; rfl)
              | (simp only [show ((11 : Nat) == 12) = false from rfl, show ((11 : Nat) == 11) = true from rfl, Bool.true_and, Bool.false_and, Bool.false_or, Bool.true_or, if_true, if_false, Bool.false_eq_true, List.append_nil, mkS_app, ← ByteArray.append_assoc, HPN.out]; rfl)
          | true =>
            go_wp2_with (first | (go_at_call 29; (with_reducible refine (i1 _).mono ?_); rintro e w' ⟨rfl, rfl⟩) | (go_at_call 29; (with_reducible refine (i2 _).mono ?_); rintro e w' ⟨rfl, rfl⟩) | (go_at_call 29; (with_reducible refine (i3 _).mono ?_); rintro e w' ⟨rfl, rfl⟩))
            go_ret
            refine ⟨?_, HB3.out⟩
            rw [← HA.out]
            (try simp only [Bool.true_and, Bool.false_and, Bool.and_true, Bool.and_false, Bool.not_true, Bool.not_false, Bool.or_false, Bool.false_or, if_true, if_false, Bool.false_eq_true, List.append_nil, List.nil_append, beq_self_eq_true, Bool.true_or])
            first
              | rfl
              | (rw [HPN.out]; rfl)
              | (simp only [ByteArray.append_assoc]; rfl)
              | (simp only [mkS_app, ← ByteArray.append_assoc, HPN.out]; rfl)
              | (simp only [show ((11 : Nat) == 12) = false from rfl, show ((11 : Nat) == 11) = true from rfl, Bool.true_and, Bool.false_and, Bool.false_or, Bool.true_or, if_true, if_false, Bool.false_eq_true, List.append_nil, mkS_app, ← ByteArray.append_assoc, HPN.out]; rfl)
        | true =>
          cases K0 with
          | false =>
            go_wp2_with (first | (go_at_call 29; (with_reducible refine (i1 _).mono ?_); rintro e w' ⟨rfl, rfl⟩) | (go_at_call 29; (with_reducible refine (i2 _).mono ?_); rintro e w' ⟨rfl, rfl⟩) | (go_at_call 29; (with_reducible refine (i3 _).mono ?_); rintro e w' ⟨rfl, rfl⟩))
            go_ret
            refine ⟨?_, HB3.out⟩
            rw [← HA.out]
            (try simp only [Bool.true_and, Bool.false_and, Bool.and_true, Bool.and_false, Bool.not_true, Bool.not_false, Bool.or_false, Bool.false_or, if_true, if_false, Bool.false_eq_true, List.append_nil, List.nil_append, beq_self_eq_true, Bool.true_or])
            first
              | rfl
              | (rw [HPN.out]; rfl)
              | (simp only [ByteArray.append_assoc]; rfl)
              | (simp only [mkS_app, ← ByteArray.append_assoc, HPN.out]; rfl)
              | (simp only [show ((11 : Nat) == 12) = false from rfl, show ((11 : Nat) == 11) = true from rfl, Bool.true_and, Bool.false_and, Bool.false_or, Bool.true_or, if_true, if_false, Bool.false_eq_true, List.append_nil, mkS_app, ← ByteArray.append_assoc, HPN.out]; rfl)
          | true =>
            go_wp2_with (first | (go_at_call 29; (with_reducible refine (i1 _).mono ?_); rintro e w' ⟨rfl, rfl⟩) | (go_at_call 29; (with_reducible refine (i2 _).mono ?_); rintro e w' ⟨rfl, rfl⟩) | (go_at_call 29; (with_reducible refine (i3 _).mono ?_); rintro e w' ⟨rfl, rfl⟩))
            go_ret
            refine ⟨?_, HB3.out⟩
            rw [← HA.out]
            (try simp only [Bool.true_and, Bool.false_and, Bool.and_true, Bool.and_false, Bool.not_true, Bool.not_false, Bool.or_false, Bool.false_or, if_true, if_false, Bool.false_eq_true, List.append_nil, List.nil_append, beq_self_eq_true, Bool.true_or])
            first
              | rfl
              | (rw [HPN.out]; rfl)
              | (simp only [ByteArray.append_assoc]; rfl)
              | (simp only [mkS_app, ← ByteArray.append_assoc, HPN.out]; rfl)
              | (simp only [show ((11 : Nat) == 12) = false from rfl, show ((11 : Nat) == 11) = true from rfl, Bool.true_and, Bool.false_and, Bool.false_or, Bool.true_or, if_true, if_false, Bool.false_eq_true, List.append_nil, mkS_app, ← ByteArray.append_assoc, HPN.out]; rfl)
    | true =>
      cases c1 with
      | false =>
        cases D with
        | false =>
          cases K0 with
          | false =>
            go_wp2_with (first | (go_at_call 29; (with_reducible refine (i1 _).mono ?_); rintro e w' ⟨rfl, rfl⟩) | (go_at_call 29; (with_reducible refine (i2 _).mono ?_); rintro e w' ⟨rfl, rfl⟩) | (go_at_call 29; (with_reducible refine (i3 _).mono ?_); rintro e w' ⟨rfl, rfl⟩))
            go_ret
            refine ⟨?_, HB3.out⟩
            rw [← HA.out]
            (try simp only [Bool.true_and, Bool.false_and, Bool.and_true, Bool.and_false, Bool.not_true, Bool.not_false, Bool.or_false, Bool.false_or, if_true, if_false, Bool.false_eq_true, List.append_nil, List.nil_append, beq_self_eq_true, Bool.true_or])
            first
              | rfl
              | (rw [HPN.out]; rfl)
              | (simp only [ByteArray.append_assoc]; rfl)
              | (simp only [mkS_app, ← ByteArray.append_assoc, HPN.out]; rfl)
              | (simp only [show ((11 : Nat) == 12) = false from rfl, show ((11 : Nat) == 11) = true from rfl, Bool.true_and, Bool.false_and, Bool.false_or, Bool.true_or, if_true, if_false, Bool.false_eq_true, List.append_nil, mkS_app, ← ByteArray.append_assoc, HPN.out]; rfl)
          | true =>
            go_wp2_with (first | (go_at_call 29; (with_reducible refine (i1 _).mono ?_); rintro e w' ⟨rfl, rfl⟩) | (go_at_call 29; (with_reducible refine (i2 _).mono ?_); rintro e w' ⟨rfl, rfl⟩) | (go_at_call 29; (with_reducible refine (i3 _).mono ?_); rintro e w' ⟨rfl, rfl⟩))
            go_ret
            refine ⟨?_, HB3.out⟩
            rw [← HA.out]
            (try simp only [Bool.true_and, Bool.false_and, Bool.and_true, Bool.and_false, Bool.not_true, Bool.not_false, Bool.or_false, Bool.false_or, if_true, if_false, Bool.false_eq_true, List.append_nil, List.nil_append, beq_self_eq_true, Bool.true_or])
            first
              | rfl
              | (rw [HPN.out]; rfl)
              | (simp only [ByteArray.append_assoc]; rfl)
              | (simp only [mkS_app, ← ByteArray.append_assoc, HPN.out]; rfl)
              | (simp only [show ((11 : Nat) == 12) = false from rfl, show ((11 : Nat) == 11) = true from rfl, Bool.true_and, Bool.false_and, Bool.false_or, Bool.true_or, if_true, if_false, Bool.false_eq_true, List.append_nil, mkS_app, ← ByteArray.append_assoc, HPN.out]; rfl)
        | true =>
          cases c2 with
          | false =>
            cases K0 with
            | false =>
              go_wp2_with (first | (go_at_call 29; (with_reducible refine (i1 _).mono ?_); rintro e w' ⟨rfl, rfl⟩) | (go_at_call 29; (with_reducible refine (i2 _).mono ?_); rintro e w' ⟨rfl, rfl⟩) | (go_at_call 29; (with_reducible refine (i3 _).mono ?_); rintro e w' ⟨rfl, rfl⟩))
              go_ret
              refine ⟨?_, HB3.out⟩
              rw [← HA.out]
              (try simp only [Bool.true_and, Bool.false_and, Bool.and_true, Bool.and_false, Bool.not_true, Bool.not_false, Bool.or_false, Bool.false_or, if_true, if_false, Bool.false_eq_true, List.append_nil, List.nil_append, beq_self_eq_true, Bool.true_or])
              first
                | rfl
                | (rw [HPN.out]; rfl)
                | (simp only [ByteArray.append_assoc]; rfl)
                | (simp only [mkS_app, ← ByteArray.append_assoc, HPN.out]; rfl)
                | (simp only [show ((11 : Nat) == 12) = false from rfl, show ((11 : Nat) == 11) = true from rfl, Bool.true_and, Bool.false_and, Bool.false_or, Bool.true_or, if_true, if_false, Bool.false_eq_true, List.append_nil, mkS_app, ← ByteArray.append_assoc, HPN.out]; rfl)
            | true =>
              go_wp2_with (first | (go_at_call 29; (with_reducible refine (i1 _).mono ?_); rintro e w' ⟨rfl, rfl⟩) | (go_at_call 29; (with_reducible refine (i2 _).mono ?_); rintro e w' ⟨rfl, rfl⟩) | (go_at_call 29; (with_reducible refine (i3 _).mono ?_); rintro e w' ⟨rfl, rfl⟩))
              go_ret
              refine ⟨?_, HB3.out⟩
              rw [← HA.out]
              (try simp only [Bool.true_and, Bool.false_and, Bool.and_true, Bool.and_false, Bool.not_true, Bool.not_false, Bool.or_false, Bool.false_or, if_true, if_false, Bool.false_eq_true, List.append_nil, List.nil_append, beq_self_eq_true, Bool.true_or])
              first
                | rfl
                | (rw [HPN.out]; rfl)
                | (simp only [ByteArray.append_assoc]; rfl)
                | (simp only [mkS_app, ← ByteArray.append_assoc, HPN.out]; rfl)
                | (simp only [show ((11 : Nat) == 12) = false from rfl, show ((11 : Nat) == 11) = true from rfl, Bool.true_and, Bool.false_and, Bool.false_or, Bool.true_or, if_true, if_false, Bool.false_eq_true, List.append_nil, mkS_app, ← ByteArray.append_assoc, HPN.out]; rfl)
          | true =>
            cases K0 with
            | false =>
              go_wp2_with (first | (go_at_call 29; (with_reducible refine (i1 _).mono ?_); rintro e w' ⟨rfl, rfl⟩) | (go_at_call 29; (with_reducible refine (i2 _).mono ?_); rintro e w' ⟨rfl, rfl⟩) | (go_at_call 29; (with_reducible refine (i3 _).mono ?_); rintro e w' ⟨rfl, rfl⟩))
              go_ret
              refine ⟨?_, HB3.out⟩
              rw [← HA.out]
              (try simp only [Bool.true_and, Bool.false_and, Bool.and_true, Bool.and_false, Bool.not_true, Bool.not_false, Bool.or_false, Bool.false_or, if_true, if_false, Bool.false_eq_true, List.append_nil, List.nil_append, beq_self_eq_true, Bool.true_or])
              first
                | rfl
                | (rw [HPN.out]; rfl)
                | (simp only [ByteArray.append_assoc]; rfl)
                | (simp only [mkS_app, ← ByteArray.append_assoc, HPN.out]; rfl)
                | (simp only [show ((11 : Nat) == 12) = false from rfl, show ((11 : Nat) == 11) = true from rfl, Bool.true_and, Bool.false_and, Bool.false_or, Bool.true_or, if_true, if_false, Bool.false_eq_true, List.append_nil, mkS_app, ← ByteArray.append_assoc, HPN.out]; rfl)
            | true =>
              go_wp2_with (first | (go_at_call 29; (with_reducible refine (i1 _).mono ?_); rintro e w' ⟨rfl, rfl⟩) | (go_at_call 29; (with_reducible refine (i2 _).mono ?_); rintro e w' ⟨rfl, rfl⟩) | (go_at_call 29; (with_reducible refine (i3 _).mono ?_); rintro e w' ⟨rfl, rfl⟩))
              go_ret
              refine ⟨?_, HB3.out⟩
              rw [← HA.out]
              (try simp only [Bool.true_and, Bool.false_and, Bool.and_true, Bool.and_false, Bool.not_true, Bool.not_false, Bool.or_false, Bool.false_or, if_true, if_false, Bool.false_eq_true, List.append_nil, List.nil_append, beq_self_eq_true, Bool.true_or])
              first
                | rfl
                | (rw [HPN.out]; rfl)
                | (simp only [ByteArray.append_assoc]; rfl)
                | (simp only [mkS_app, ← ByteArray.append_assoc, HPN.out]; rfl)
                | (simp only [show ((11 : Nat) == 12) = false from rfl, show ((11 : Nat) == 11) = true from rfl, Bool.true_and, Bool.false_and, Bool.false_or, Bool.true_or, if_true, if_false, Bool.false_eq_true, List.append_nil, mkS_app, ← ByteArray.append_assoc, HPN.out]; rfl)
      | true =>
        cases D with
        | false =>
          cases K0 with
          | false =>
            go_wp2_with (first | (go_at_call 29; (with_reducible refine (i1 _).mono ?_); rintro e w' ⟨rfl, rfl⟩) | (go_at_call 29; (with_reducible refine (i2 _).mono ?_); rintro e w' ⟨rfl, rfl⟩) | (go_at_call 29; (with_reducible refine (i3 _).mono ?_); rintro e w' ⟨rfl, rfl⟩))
            go_ret
            refine ⟨?_, HB3.out⟩
            rw [← HA.out]
            (try simp only [Bool.true_and, Bool.false_and, Bool.and_true, Bool.and_false, Bool.not_true, Bool.not_false, Bool.or_false, Bool.false_or, if_true, if_false, Bool.false_eq_true, List.append_nil, List.nil_append, beq_self_eq_true, Bool.true_or])
            first
              | rfl
              | (rw [HPN.out]; rfl)
              | (simp only [ByteArray.append_assoc]; rfl)
              | (simp only [mkS_app, ← ByteArray.append_assoc, HPN.out]; rfl)
              | (simp only [show ((11 : Nat) == 12) = false from rfl, show ((11 : Nat) == 11) = true from rfl, Bool.true_and, Bool.false_and, Bool.false_or, Bool.true_or, if_true, if_false, Bool.false_eq_true, List.append_nil, mkS_app, ← ByteArray.append_assoc, HPN.out]; rfl)
          | true =>
            go_wp2_with (first | (go_at_call 29; (with_reducible refine (i1 _).mono ?_); rintro e w' ⟨rfl, rfl⟩) | (go_at_call 29; (with_reducible refine (i2 _).mono ?_); rintro e w' ⟨rfl, rfl⟩) | (go_at_call 29; (with_reducible refine (i3 _).mono ?_); rintro e w' ⟨rfl, rfl⟩))
            go_ret
            refine ⟨?_, HB3.out⟩
            rw [← HA.out]
            (try simp only [Bool.true_and, Bool.false_and, Bool.and_true, Bool.and_false, Bool.not_true, Bool.not_false, Bool.or_false, Bool.false_or, if_true, if_false, Bool.false_eq_true, List.append_nil, List.nil_append, beq_self_eq_true, Bool.true_or])
            first
              | rfl
              | (rw [HPN.out]; rfl)
              | (simp only [ByteArray.append_assoc]; rfl)
              | (simp only [mkS_app, ← ByteArray.append_assoc, HPN.out]; rfl)
              | (simp only [show ((11 : Nat) == 12) = false from rfl, show ((11 : Nat) == 11) = true from rfl, Bool.true_and, Bool.false_and, Bool.false_or, Bool.true_or, if_true, if_false, Bool.false_eq_true, List.append_nil, mkS_app, ← ByteArray.append_assoc, HPN.out]; rfl)
        | true =>
          cases c2 with
          | false =>
            cases K0 with
            | false =>
              go_wp2_with (first | (go_at_call 29; (with_reducible refine (i1 _).mono ?_); rintro e w' ⟨rfl, rfl⟩) | (go_at_call 29; (with_reducible refine (i2 _).mono ?_); rintro e w' ⟨rfl, rfl⟩) | (go_at_call 29; (with_reducible refine (i3 _).mono ?_); rintro e w' ⟨rfl, rfl⟩))
              go_ret
              refine ⟨?_, HB3.out⟩
              rw [← HA.out]
              (try simp only [Bool.true_and, Bool.false_and, Bool.and_true, Bool.and_false, Bool.not_true, Bool.not_false, Bool.or_false, Bool.false_or, if_true, if_false, Bool.false_eq_true, List.append_nil, List.nil_append, beq_self_eq_true, Bool.true_or])
              first
                | rfl
                | (rw [HPN.out]; rfl)
                | (simp only [ByteArray.append_assoc]; rfl)
                | (simp only [mkS_app, ← ByteArray.append_assoc, HPN.out]; rfl)
                | (simp only [show ((11 : Nat) == 12) = false from rfl, show ((11 : Nat) == 11) = true from rfl, Bool.true_and, Bool.false_and, Bool.false_or, Bool.true_or, if_true, if_false, Bool.false_eq_true, List.append_nil, mkS_app, ← ByteArray.append_assoc, HPN.out]; rfl)
            | true =>
              go_wp2_with (first | (go_at_call 29; (with_reducible refine (i1 _).mono ?_); rintro e w' ⟨rfl, rfl⟩) | (go_at_call 29; (with_reducible refine (i2 _).mono ?_); rintro e w' ⟨rfl, rfl⟩) | (go_at_call 29; (with_reducible refine (i3 _).mono ?_); rintro e w' ⟨rfl, rfl⟩))
              go_ret
              refine ⟨?_, HB3.out⟩
              rw [← HA.out]
              (try simp only [Bool.true_and, Bool.false_and, Bool.and_true, Bool.and_false, Bool.not_true, Bool.not_false, Bool.or_false, Bool.false_or, if_true, if_false, Bool.false_eq_true, List.append_nil, List.nil_append, beq_self_eq_true, Bool.true_or])
              first
                | rfl
                | (rw [HPN.out]; rfl)
                | (simp only [ByteArray.append_assoc]; rfl)
                | (simp only [mkS_app, ← ByteArray.append_assoc, HPN.out]; rfl)
                | (simp only [show ((11 : Nat) == 12) = false from rfl, show ((11 : Nat) == 11) = true from rfl, Bool.true_and, Bool.false_and, Bool.false_or, Bool.true_or, if_true, if_false, Bool.false_eq_true, List.append_nil, mkS_app, ← ByteArray.append_assoc, HPN.out]; rfl)
          | true =>
            cases K0 with
            | false =>
              go_wp2_with (first | (go_at_call 29; (with_reducible refine (i1 _).mono ?_); rintro e w' ⟨rfl, rfl⟩) | (go_at_call 29; (with_reducible refine (i2 _).mono ?_); rintro e w' ⟨rfl, rfl⟩) | (go_at_call 29; (with_reducible refine (i3 _).mono ?_); rintro e w' ⟨rfl, rfl⟩))
              go_ret
              refine ⟨?_, HB3.out⟩
              rw [← HA.out]
              (try simp only [Bool.true_and, Bool.false_and, Bool.and_true, Bool.and_false, Bool.not_true, Bool.not_false, Bool.or_false, Bool.false_or, if_true, if_false, Bool.false_eq_true, List.append_nil, List.nil_append, beq_self_eq_true, Bool.true_or])
              first
                | rfl
                | (rw [HPN.out]; rfl)
                | (simp only [ByteArray.append_assoc]; rfl)
                | (simp only [mkS_app, ← ByteArray.append_assoc, HPN.out]; rfl)
                | (simp only [show ((11 : Nat) == 12) = false from rfl, show ((11 : Nat) == 11) = true from rfl, Bool.true_and, Bool.false_and, Bool.false_or, Bool.true_or, if_true, if_false, Bool.false_eq_true, List.append_nil, mkS_app, ← ByteArray.append_assoc, HPN.out]; rfl)
            | true =>
              go_wp2_with (first | (go_at_call 29; (with_reducible refine (i1 _).mono ?_); rintro e w' ⟨rfl, rfl⟩) | (go_at_call 29; (with_reducible refine (i2 _).mono ?_); rintro e w' ⟨rfl, rfl⟩) | (go_at_call 29; (with_reducible refine (i3 _).mono ?_); rintro e w' ⟨rfl, rfl⟩))
              go_ret
              refine ⟨?_, HB3.out⟩
              rw [← HA.out]
              (try simp only [Bool.true_and, Bool.false_and, Bool.and_true, Bool.and_false, Bool.not_true, Bool.not_false, Bool.or_false, Bool.false_or, if_true, if_false, Bool.false_eq_true, List.append_nil, List.nil_append, beq_self_eq_true, Bool.true_or])
              first
                | rfl
                | (rw [HPN.out]; rfl)
                | (simp only [ByteArray.append_assoc]; rfl)
                | (simp only [mkS_app, ← ByteArray.append_assoc, HPN.out]; rfl)
                | (simp only [show ((11 : Nat) == 12) = false from rfl, show ((11 : Nat) == 11) = true from rfl, Bool.true_and, Bool.false_and, Bool.false_or, Bool.true_or, if_true, if_false, Bool.false_eq_true, List.append_nil, mkS_app, ← ByteArray.append_assoc, HPN.out]; rfl)
  · have start : True := trivial
    cases T with
    | false =>
      cases D with
      | false =>
        cases K0 with
        | false =>
          go_wp2_with (first | (go_at_call 29; (with_reducible refine (i1 _).mono ?_); rintro e w' ⟨rfl, rfl⟩) | (go_at_call 29; (with_reducible refine (i2 _).mono ?_); rintro e w' ⟨rfl, rfl⟩) | (go_at_call 29; (with_reducible refine (i3 _).mono ?_); rintro e w' ⟨rfl, rfl⟩))
          go_ret
          refine ⟨?_, HB3.out⟩
          rw [← HA.out]
          (try simp only [Bool.true_and, Bool.false_and, Bool.and_true, Bool.and_false, Bool.not_true, Bool.not_false, Bool.or_false, Bool.false_or, if_true, if_false, Bool.false_eq_true, List.append_nil, List.nil_append, beq_self_eq_true, Bool.true_or])
          first
            | rfl
            | (rw [HPN.out]; rfl)
            | (simp only [ByteArray.append_assoc]; rfl)
            | (simp only [mkS_app, ← ByteArray.append_assoc, HPN.out]; rfl)
            | (simp only [show ((11 : Nat) == 12) = false from rfl, show ((11 : Nat) == 11) = true from rfl, Bool.true_and, Bool.false_and, Bool.false_or, Bool.true_or, if_true, if_false, Bool.false_eq_true, List.append_nil, mkS_app, ← ByteArray.append_assoc, HPN.out]; rfl)
        | true =>
          cases c3 with
          | false =>
            go_wp2_with (first | (go_at_call 29; (with_reducible refine (i1 _).mono ?_); rintro e w' ⟨rfl, rfl⟩) | (go_at_call 29; (with_reducible refine (i2 _).mono ?_); rintro e w' ⟨rfl, rfl⟩) | (go_at_call 29; (with_reducible refine (i3 _).mono ?_); rintro e w' ⟨rfl, rfl⟩))
            go_ret
            refine ⟨?_, HB3.out⟩
            rw [← HA.out]
            (try simp only [Bool.true_and, Bool.false_and, Bool.and_true, Bool.and_false, Bool.not_true, Bool.not_false, Bool.or_false, Bool.false_or, if_true, if_false, Bool.false_eq_true, List.append_nil, List.nil_append, beq_self_eq_true, Bool.true_or])
            first
              | rfl
              | (rw [HPN.out]; rfl)
              | (simp only [ByteArray.append_assoc]; rfl)
              | (simp only [mkS_app, ← ByteArray.append_assoc, HPN.out]; rfl)
              | (simp only [show ((11 : Nat) == 12) = false from rfl, show ((11 : Nat) == 11) = true from rfl, Bool.true_and, Bool.false_and, Bool.false_or, Bool.true_or, if_true, if_false, Bool.false_eq_true, List.append_nil, mkS_app, ← ByteArray.append_assoc, HPN.out]; rfl)
          | true =>
            go_wp2_with (first | (go_at_call 29; (with_reducible refine (i1 _).mono ?_); rintro e w' ⟨rfl, rfl⟩) | (go_at_call 29; (with_reducible refine (i2 _).mono ?_); rintro e w' ⟨rfl, rfl⟩) | (go_at_call 29; (with_reducible refine (i3 _).mono ?_); rintro e w' ⟨rfl, rfl⟩))
            go_ret
            refine ⟨?_, HB3.out⟩
            rw [← HA.out]
            (try simp only [Bool.true_and, Bool.false_and, Bool.and_true, Bool.and_false, Bool.not_true, Bool.not_false, Bool.or_false, Bool.false_or, if_true, if_false, Bool.false_eq_true, List.append_nil, List.nil_append, beq_self_eq_true, Bool.true_or])
            first
              | rfl
              | (rw [HPN.out]; rfl)
              | (simp only [ByteArray.append_assoc]; rfl)
              | (simp only [mkS_app, ← ByteArray.append_assoc, HPN.out]; rfl)
              | (simp only [show ((11 : Nat) == 12) = false from rfl, show ((11 : Nat) == 11) = true from rfl, Bool.true_and, Bool.false_and, Bool.false_or, Bool.true_or, if_true, if_false, Bool.false_eq_true, List.append_nil, mkS_app, ← ByteArray.append_assoc, HPN.out]; rfl)
      | true =>
        cases c2 with
        | false =>
          cases K0 with
          | false =>
            go_wp2_with (first | (go_at_call 29; (with_reducible refine (i1 _).mono ?_); rintro e w' ⟨rfl, rfl⟩) | (go_at_call 29; (with_reducible refine (i2 _).mono ?_); rintro e w' ⟨rfl, rfl⟩) | (go_at_call 29; (with_reducible refine (i3 _).mono ?_); rintro e w' ⟨rfl, rfl⟩))
            go_ret
            refine ⟨?_, HB3.out⟩
            rw [← HA.out]
            (try simp only [Bool.true_and, Bool.false_and, Bool.and_true, Bool.and_false, Bool.not_true, Bool.not_false, Bool.or_false, Bool.false_or, if_true, if_false, Bool.false_eq_true, List.append_nil, List.nil_append, beq_self_eq_true, Bool.true_or])
            first
              | rfl
              | (rw [HPN.out]; rfl)
              | (simp only [ByteArray.append_assoc]; rfl)
              | (simp only [mkS_app, ← ByteArray.append_assoc, HPN.out]; rfl)
              | (simp only [show ((11 : Nat) == 12) = false from rfl, show ((11 : Nat) == 11) = true from rfl, Bool.true_and, Bool.false_and, Bool.false_or, Bool.true_or, if_true, if_false, Bool.false_eq_true, List.append_nil, mkS_app, ← ByteArray.append_assoc, HPN.out]; rfl)
          | true =>
            cases c3 with
            | false =>
              go_wp2_with (first | (go_at_call 29; (with_reducible refine (i1 _).mono ?_); rintro e w' ⟨rfl, rfl⟩) | (go_at_call 29; (with_reducible refine (i2 _).mono ?_); rintro e w' ⟨rfl, rfl⟩) | (go_at_call 29; (with_reducible refine (i3 _).mono ?_); rintro e w' ⟨rfl, rfl⟩))
              go_ret
              refine ⟨?_, HB3.out⟩
              rw [← HA.out]
              (try simp only [Bool.true_and, Bool.false_and, Bool.and_true, Bool.and_false, Bool.not_true, Bool.not_false, Bool.or_false, Bool.false_or, if_true, if_false, Bool.false_eq_true, List.append_nil, List.nil_append, beq_self_eq_true, Bool.true_or])
              first
                | rfl
                | (rw [HPN.out]; rfl)
                | (simp only [ByteArray.append_assoc]; rfl)
                | (simp only [mkS_app, ← ByteArray.append_assoc, HPN.out]; rfl)
                | (simp only [show ((11 : Nat) == 12) = false from rfl, show ((11 : Nat) == 11) = true from rfl, Bool.true_and, Bool.false_and, Bool.false_or, Bool.true_or, if_true, if_false, Bool.false_eq_true, List.append_nil, mkS_app, ← ByteArray.append_assoc, HPN.out]; rfl)
            | true =>
              go_wp2_with (first | (go_at_call 29; (with_reducible refine (i1 _).mono ?_); rintro e w' ⟨rfl, rfl⟩) | (go_at_call 29; (with_reducible refine (i2 _).mono ?_); rintro e w' ⟨rfl, rfl⟩) | (go_at_call 29; (with_reducible refine (i3 _).mono ?_); rintro e w' ⟨rfl, rfl⟩))
              go_ret
              refine ⟨?_, HB3.out⟩
              rw [← HA.out]
              (try simp only [Bool.true_and, Bool.false_and, Bool.and_true, Bool.and_false, Bool.not_true, Bool.not_false, Bool.or_false, Bool.false_or, if_true, if_false, Bool.false_eq_true, List.append_nil, List.nil_append, beq_self_eq_true, Bool.true_or])
              first
                | rfl
                | (rw [HPN.out]; rfl)
                | (simp only [ByteArray.append_assoc]; rfl)
                | (simp only [mkS_app, ← ByteArray.append_assoc, HPN.out]; rfl)
                | (simp only [show ((11 : Nat) == 12) = false from rfl, show ((11 : Nat) == 11) = true from rfl, Bool.true_and, Bool.false_and, Bool.false_or, Bool.true_or, if_true, if_false, Bool.false_eq_true, List.append_nil, mkS_app, ← ByteArray.append_assoc, HPN.out]; rfl)
        | true =>
          cases K0 with
          | false =>
            go_wp2_with (first | (go_at_call 29; (with_reducible refine (i1 _).mono ?_); rintro e w' ⟨rfl, rfl⟩) | (go_at_call 29; (with_reducible refine (i2 _).mono ?_); rintro e w' ⟨rfl, rfl⟩) | (go_at_call 29; (with_reducible refine (i3 _).mono ?_); rintro e w' ⟨rfl, rfl⟩))
            go_ret
            refine ⟨?_, HB3.out⟩
            rw [← HA.out]
            (try simp only [Bool.true_and, Bool.false_and, Bool.and_true, Bool.and_false, Bool.not_true, Bool.not_false, Bool.or_false, Bool.false_or, if_true, if_false, Bool.false_eq_true, List.append_nil, List.nil_append, beq_self_eq_true, Bool.true_or])
            first
              | rfl
              | (rw [HPN.out]; rfl)
              | (simp only [ByteArray.append_assoc]; rfl)
              | (simp only [mkS_app, ← ByteArray.append_assoc, HPN.out]; rfl)
              | (simp only [show ((11 : Nat) == 12) = false from rfl, show ((11 : Nat) == 11) = true from rfl, Bool.true_and, Bool.false_and, Bool.false_or, Bool.true_or, if_true, if_false, Bool.false_eq_true, List.append_nil, mkS_app, ← ByteArray.append_assoc, HPN.out]; rfl)
          | true =>
            cases c3 with
            | false =>
              go_wp2_with (first | (go_at_call 29; (with_reducible refine (i1 _).mono ?_); rintro e w' ⟨rfl, rfl⟩) | (go_at_call 29; (with_reducible refine (i2 _).mono ?_); rintro e w' ⟨rfl, rfl⟩) | (go_at_call 29; (with_reducible refine (i3 _).mono ?_); rintro e w' ⟨rfl, rfl⟩))
              go_ret
              refine ⟨?_, HB3.out⟩
              rw [← HA.out]
              (try simp only [Bool.true_and, Bool.false_and, Bool.and_true, Bool.and_false, Bool.not_true, Bool.not_false, Bool.or_false, Bool.false_or, if_true, if_false, Bool.false_eq_true, List.append_nil, List.nil_append, beq_self_eq_true, Bool.true_or])
              first
                | rfl
                | (rw [HPN.out]; rfl)
                | (simp only [ByteArray.append_assoc]; rfl)
                | (simp only [mkS_app, ← ByteArray.append_assoc, HPN.out]; rfl)
                | (simp only [show ((11 : Nat) == 12) = false from rfl, show ((11 : Nat) == 11) = true from rfl, Bool.true_and, Bool.false_and, Bool.false_or, Bool.true_or, if_true, if_false, Bool.false_eq_true, List.append_nil, mkS_app, ← ByteArray.append_assoc, HPN.out]; rfl)
            | true =>
              go_wp2_with (first | (go_at_call 29; (with_reducible refine (i1 _).mono ?_); rintro e w' ⟨rfl, rfl⟩) | (go_at_call 29; (with_reducible refine (i2 _).mono ?_); rintro e w' ⟨rfl, rfl⟩) | (go_at_call 29; (with_reducible refine (i3 _).mono ?_); rintro e w' ⟨rfl, rfl⟩))
              go_ret
              refine ⟨?_, HB3.out⟩
              rw [← HA.out]
              (try simp only [Bool.true_and, Bool.false_and, Bool.and_true, Bool.and_false, Bool.not_true, Bool.not_false, Bool.or_false, Bool.false_or, if_true, if_false, Bool.false_eq_true, List.append_nil, List.nil_append, beq_self_eq_true, Bool.true_or])
              first
                | rfl
                | (rw [HPN.out]; rfl)
                | (simp only [ByteArray.append_assoc]; rfl)
                | (simp only [mkS_app, ← ByteArray.append_assoc, HPN.out]; rfl)
                | (simp only [show ((11 : Nat) == 12) = false from rfl, show ((11 : Nat) == 11) = true from rfl, Bool.true_and, Bool.false_and, Bool.false_or, Bool.true_or, if_true, if_false, Bool.false_eq_true, List.append_nil, mkS_app, ← ByteArray.append_assoc, HPN.out]; rfl)
    | true =>
      cases c1 with
      | false =>
        cases D with
        | false =>
          cases K0 with
          | false =>
            go_wp2_with (first | (go_at_call 29; (with_reducible refine (i1 _).mono ?_); rintro e w' ⟨rfl, rfl⟩) | (go_at_call 29; (with_reducible refine (i2 _).mono ?_); rintro e w' ⟨rfl, rfl⟩) | (go_at_call 29; (with_reducible refine (i3 _).mono ?_); rintro e w' ⟨rfl, rfl⟩))
            go_ret
            refine ⟨?_, HB3.out⟩
            rw [← HA.out]
            (try simp only [Bool.true_and, Bool.false_and, Bool.and_true, Bool.and_false, Bool.not_true, Bool.not_false, Bool.or_false, Bool.false_or, if_true, if_false, Bool.false_eq_true, List.append_nil, List.nil_append, beq_self_eq_true, Bool.true_or])
            first
              | rfl
              | (rw [HPN.out]; rfl)
              | (simp only [ByteArray.append_assoc]; rfl)
              | (simp only [mkS_app, ← ByteArray.append_assoc, HPN.out]; rfl)
              | (simp only [show ((11 : Nat) == 12) = false from rfl, show ((11 : Nat) == 11) = true from rfl, Bool.true_and, Bool.false_and, Bool.false_or, Bool.true_or, if_true, if_false, Bool.false_eq_true, List.append_nil, mkS_app, ← ByteArray.append_assoc, HPN.out]; rfl)
          | true =>
            cases c3 with
            | false =>
              go_wp2_with (first | (go_at_call 29; (with_reducible refine (i1 _).mono ?_); rintro e w' ⟨rfl, rfl⟩) | (go_at_call 29; (with_reducible refine (i2 _).mono ?_); rintro e w' ⟨rfl, rfl⟩) | (go_at_call 29; (with_reducible refine (i3 _).mono ?_); rintro e w' ⟨rfl, rfl⟩))
              go_ret
              refine ⟨?_, HB3.out⟩
              rw [← HA.out]
              (try simp only [Bool.true_and, Bool.false_and, Bool.and_true, Bool.and_false, Bool.not_true, Bool.not_false, Bool.or_false, Bool.false_or, if_true, if_false, Bool.false_eq_true, List.append_nil, List.nil_append, beq_self_eq_true, Bool.true_or])
              first
                | rfl
                | (rw [HPN.out]; rfl)
                | (simp only [ByteArray.append_assoc]; rfl)
                | (simp only [mkS_app, ← ByteArray.append_assoc, HPN.out]; rfl)
                | (simp only [show ((11 : Nat) == 12) = false from rfl, show ((11 : Nat) == 11) = true from rfl, Bool.true_and, Bool.false_and, Bool.false_or, Bool.true_or, if_true, if_false, Bool.false_eq_true, List.append_nil, mkS_app, ← ByteArray.append_assoc, HPN.out]; rfl)
            | true =>
              go_wp2_with (first | (go_at_call 29; (with_reducible refine (i1 _).mono ?_); rintro e w' ⟨rfl, rfl⟩) | (go_at_call 29; (with_reducible refine (i2 _).mono ?_); rintro e w' ⟨rfl, rfl⟩) | (go_at_call 29; (with_reducible refine (i3 _).mono ?_); rintro e w' ⟨rfl, rfl⟩))
              go_ret
              refine ⟨?_, HB3.out⟩
              rw [← HA.out]
              (try simp only [Bool.true_and, Bool.false_and, Bool.and_true, Bool.and_false, Bool.not_true, Bool.not_false, Bool.or_false, Bool.false_or, if_true, if_false, Bool.false_eq_true, List.append_nil, List.nil_append, beq_self_eq_true, Bool.true_or])
              first
                | rfl
                | (rw [HPN.out]; rfl)
                | (simp only [ByteArray.append_assoc]; rfl)
                | (simp only [mkS_app, ← ByteArray.append_assoc, HPN.out]; rfl)
                | (simp only [show ((11 : Nat) == 12) = false from rfl, show ((11 : Nat) == 11) = true from rfl, Bool.true_and, Bool.false_and, Bool.false_or, Bool.true_or, if_true, if_false, Bool.false_eq_true, List.append_nil, mkS_app, ← ByteArray.append_assoc, HPN.out]; rfl)
        | true =>
          cases c2 with
          | false =>
            cases K0 with
            | false =>
              go_wp2_with (first | (go_at_call 29; (with_reducible refine (i1 _).mono ?_); rintro e w' ⟨rfl, rfl⟩) | (go_at_call 29; (with_reducible refine (i2 _).mono ?_); rintro e w' ⟨rfl, rfl⟩) | (go_at_call 29; (with_reducible refine (i3 _).mono ?_); rintro e w' ⟨rfl, rfl⟩))
              go_ret
              refine ⟨?_, HB3.out⟩
              rw [← HA.out]
              (try simp only [Bool.true_and, Bool.false_and, Bool.and_true, Bool.and_false, Bool.not_true, Bool.not_false, Bool.or_false, Bool.false_or, if_true, if_false, Bool.false_eq_true, List.append_nil, List.nil_append, beq_self_eq_true, Bool.true_or])
              first
                | rfl
                | (rw [HPN.out]; rfl)
                | (simp only [ByteArray.append_assoc]; rfl)
                | (simp only [mkS_app, ← ByteArray.append_assoc, HPN.out]; rfl)
                | (simp only [show ((11 : Nat) == 12) = false from rfl, show ((11 : Nat) == 11) = true from rfl, Bool.true_and, Bool.false_and, Bool.false_or, Bool.true_or, if_true, if_false, Bool.false_eq_true, List.append_nil, mkS_app, ← ByteArray.append_assoc, HPN.out]; rfl)
            | true =>
              cases c3 with
              | false =>
                go_wp2_with (first | (go_at_call 29; (with_reducible refine (i1 _).mono ?_); rintro e w' ⟨rfl, rfl⟩) | (go_at_call 29; (with_reducible refine (i2 _).mono ?_); rintro e w' ⟨rfl, rfl⟩) | (go_at_call 29; (with_reducible refine (i3 _).mono ?_); rintro e w' ⟨rfl, rfl⟩))
                go_ret
                refine ⟨?_, HB3.out⟩
                rw [← HA.out]
                (try simp only [Bool.true_and, Bool.false_and, Bool.and_true, Bool.and_false, Bool.not_true, Bool.not_false, Bool.or_false, Bool.false_or, if_true, if_false, Bool.false_eq_true, List.append_nil, List.nil_append, beq_self_eq_true, Bool.true_or])
                first
                  | rfl
                  | (rw [HPN.out]; rfl)
                  | (simp only [ByteArray.append_assoc]; rfl)
                  | (simp only [mkS_app, ← ByteArray.append_assoc, HPN.out]; rfl)
                  | (simp only [show ((11 : Nat) == 12) = false from rfl, show ((11 : Nat) == 11) = true from rfl, Bool.true_and, Bool.false_and, Bool.false_or, Bool.true_or, if_true, if_false, Bool.false_eq_true, List.append_nil, mkS_app, ← ByteArray.append_assoc, HPN.out]; rfl)
              | true =>
                go_wp2_with (first | (go_at_call 29; (with_reducible refine (i1 _).mono ?_); rintro e w' ⟨rfl, rfl⟩) | (go_at_call 29; (with_reducible refine (i2 _).mono ?_); rintro e w' ⟨rfl, rfl⟩) | (go_at_call 29; (with_reducible refine (i3 _).mono ?_); rintro e w' ⟨rfl, rfl⟩))
                go_ret
                refine ⟨?_, HB3.out⟩
                rw [← HA.out]
                (try simp only [Bool.true_and, Bool.false_and, Bool.and_true, Bool.and_false, Bool.not_true, Bool.not_false, Bool.or_false, Bool.false_or, if_true, if_false, Bool.false_eq_true, List.append_nil, List.nil_append, beq_self_eq_true, Bool.true_or])
                first
                  | rfl
                  | (rw [HPN.out]; rfl)
                  | (simp only [ByteArray.append_assoc]; rfl)
                  | (simp only [mkS_app, ← ByteArray.append_assoc, HPN.out]; rfl)
                  | (simp only [show ((11 : Nat) == 12) = false from rfl, show ((11 : Nat) == 11) = true from rfl, Bool.true_and, Bool.false_and, Bool.false_or, Bool.true_or, if_true, if_false, Bool.false_eq_true, List.append_nil, mkS_app, ← ByteArray.append_assoc, HPN.out]; rfl)
          | true =>
            cases K0 with
            | false =>
              go_wp2_with (first | (go_at_call 29; (with_reducible refine (i1 _).mono ?_); rintro e w' ⟨rfl, rfl⟩) | (go_at_call 29; (with_reducible refine (i2 _).mono ?_); rintro e w' ⟨rfl, rfl⟩) | (go_at_call 29; (with_reducible refine (i3 _).mono ?_); rintro e w' ⟨rfl, rfl⟩))
              go_ret
              refine ⟨?_, HB3.out⟩
              rw [← HA.out]
              (try simp only [Bool.true_and, Bool.false_and, Bool.and_true, Bool.and_false, Bool.not_true, Bool.not_false, Bool.or_false, Bool.false_or, if_true, if_false, Bool.false_eq_true, List.append_nil, List.nil_append, beq_self_eq_true, Bool.true_or])
              first
                | rfl
                | (rw [HPN.out]; rfl)
                | (simp only [ByteArray.append_assoc]; rfl)
                | (simp only [mkS_app, ← ByteArray.append_assoc, HPN.out]; rfl)
                | (simp only [show ((11 : Nat) == 12) = false from rfl, show ((11 : Nat) == 11) = true from rfl, Bool.true_and, Bool.false_and, Bool.false_or, Bool.true_or, if_true, if_false, Bool.false_eq_true, List.append_nil, mkS_app, ← ByteArray.append_assoc, HPN.out]; rfl)
            | true =>
              cases c3 with
              | false =>
                go_wp2_with (first | (go_at_call 29; (with_reducible refine (i1 _).mono ?_); rintro e w' ⟨rfl, rfl⟩) | (go_at_call 29; (with_reducible refine (i2 _).mono ?_); rintro e w' ⟨rfl, rfl⟩) | (go_at_call 29; (with_reducible refine (i3 _).mono ?_); rintro e w' ⟨rfl, rfl⟩))
                go_ret
                refine ⟨?_, HB3.out⟩
                rw [← HA.out]
                (try simp only [Bool.true_and, Bool.false_and, Bool.and_true, Bool.and_false, Bool.not_true, Bool.not_false, Bool.or_false, Bool.false_or, if_true, if_false, Bool.false_eq_true, List.append_nil, List.nil_append, beq_self_eq_true, Bool.true_or])
                first
                  | rfl
                  | (rw [HPN.out]; rfl)
                  | (simp only [ByteArray.append_assoc]; rfl)
                  | (simp only [mkS_app, ← ByteArray.append_assoc, HPN.out]; rfl)
                  | (simp only [show ((11 : Nat) == 12) = false from rfl, show ((11 : Nat) == 11) = true from rfl, Bool.true_and, Bool.false_and, Bool.false_or, Bool.true_or, if_true, if_false, Bool.false_eq_true, List.append_nil, mkS_app, ← ByteArray.append_assoc, HPN.out]; rfl)
              | true =>
                go_wp2_with (first | (go_at_call 29; (with_reducible refine (i1 _).mono ?_); rintro e w' ⟨rfl, rfl⟩) | (go_at_call 29; (with_reducible refine (i2 _).mono ?_); rintro e w' ⟨rfl, rfl⟩) | (go_at_call 29; (with_reducible refine (i3 _).mono ?_); rintro e w' ⟨rfl, rfl⟩))
                go_ret
                refine ⟨?_, HB3.out⟩
                rw [← HA.out]
                (try simp only [Bool.true_and, Bool.false_and, Bool.and_true, Bool.and_false, Bool.not_true, Bool.not_false, Bool.or_false, Bool.false_or, if_true, if_false, Bool.false_eq_true, List.append_nil, List.nil_append, beq_self_eq_true, Bool.true_or])
                first
                  | rfl
                  | (rw [HPN.out]; rfl)
                  | (simp only [ByteArray.append_assoc]; rfl)
                  | (simp only [mkS_app, ← ByteArray.append_assoc, HPN.out]; rfl)
                  | (simp only [show ((11 : Nat) == 12) = false from rfl, show ((11 : Nat) == 11) = true from rfl, Bool.true_and, Bool.false_and, Bool.false_or, Bool.true_or, if_true, if_false, Bool.false_eq_true, List.append_nil, mkS_app, ← ByteArray.append_assoc, HPN.out]; rfl)
      | true =>
        cases D with
        | false =>
          cases K0 with
          | false =>
            go_wp2_with (first | (go_at_call 29; (with_reducible refine (i1 _).mono ?_); rintro e w' ⟨rfl, rfl⟩) | (go_at_call 29; (with_reducible refine (i2 _).mono ?_); rintro e w' ⟨rfl, rfl⟩) | (go_at_call 29; (with_reducible refine (i3 _).mono ?_); rintro e w' ⟨rfl, rfl⟩))
            go_ret
            refine ⟨?_, HB3.out⟩
            rw [← HA.out]
            (try simp only [Bool.true_and, Bool.false_and, Bool.and_true, Bool.and_false, Bool.not_true, Bool.not_false, Bool.or_false, Bool.false_or, if_true, if_false, Bool.false_eq_true, List.append_nil, List.nil_append, beq_self_eq_true, Bool.true_or])
            first
              | rfl
              | (rw [HPN.out]; rfl)
              | (simp only [ByteArray.append_assoc]; rfl)
              | (simp only [mkS_app, ← ByteArray.append_assoc, HPN.out]; rfl)
              | (simp only [show ((11 : Nat) == 12) = false from rfl, show ((11 : Nat) == 11) = true from rfl, Bool.true_and, Bool.false_and, Bool.false_or, Bool.true_or, if_true, if_false, Bool.false_eq_true, List.append_nil, mkS_app, ← ByteArray.append_assoc, HPN.out]; rfl)
          | true =>
            cases c3 with
            | false =>
              go_wp2_with (first | (go_at_call 29; (with_reducible refine (i1 _).mono ?_); rintro e w' ⟨rfl, rfl⟩) | (go_at_call 29; (with_reducible refine (i2 _).mono ?_); rintro e w' ⟨rfl, rfl⟩) | (go_at_call 29; (with_reducible refine (i3 _).mono ?_); rintro e w' ⟨rfl, rfl⟩))
              go_ret
              refine ⟨?_, HB3.out⟩
              rw [← HA.out]
              (try simp only [Bool.true_and, Bool.false_and, Bool.and_true, Bool.and_false, Bool.not_true, Bool.not_false, Bool.or_false, Bool.false_or, if_true, if_false, Bool.false_eq_true, List.append_nil, List.nil_append, beq_self_eq_true, Bool.true_or])
              first
                | rfl
                | (rw [HPN.out]; rfl)
                | (simp only [ByteArray.append_assoc]; rfl)
                | (simp only [mkS_app, ← ByteArray.append_assoc, HPN.out]; rfl)
                | (simp only [show ((11 : Nat) == 12) = false from rfl, show ((11 : Nat) == 11) = true from rfl, Bool.true_and, Bool.false_and, Bool.false_or, Bool.true_or, if_true, if_false, Bool.false_eq_true, List.append_nil, mkS_app, ← ByteArray.append_assoc, HPN.out]; rfl)
            | true =>
              go_wp2_with (first | (go_at_call 29; (with_reducible refine (i1 _).mono ?_); rintro e w' ⟨rfl, rfl⟩) | (go_at_call 29; (with_reducible refine (i2 _).mono ?_); rintro e w' ⟨rfl, rfl⟩) | (go_at_call 29; (with_reducible refine (i3 _).mono ?_); rintro e w' ⟨rfl, rfl⟩))
              go_ret
              refine ⟨?_, HB3.out⟩
              rw [← HA.out]
              (try simp only [Bool.true_and, Bool.false_and, Bool.and_true, Bool.and_false, Bool.not_true, Bool.not_false, Bool.or_false, Bool.false_or, if_true, if_false, Bool.false_eq_true, List.append_nil, List.nil_append, beq_self_eq_true, Bool.true_or])
              first
                | rfl
                | (rw [HPN.out]; rfl)
                | (simp only [ByteArray.append_assoc]; rfl)
                | (simp only [mkS_app, ← ByteArray.append_assoc, HPN.out]; rfl)
                | (simp only [show ((11 : Nat) == 12) = false from rfl, show ((11 : Nat) == 11) = true from rfl, Bool.true_and, Bool.false_and, Bool.false_or, Bool.true_or, if_true, if_false, Bool.false_eq_true, List.append_nil, mkS_app, ← ByteArray.append_assoc, HPN.out]; rfl)
        | true =>
          cases c2 with
          | false =>
            cases K0 with
            | false =>
              go_wp2_with (first | (go_at_call 29; (with_reducible refine (i1 _).mono ?_); rintro e w' ⟨rfl, rfl⟩) | (go_at_call 29; (with_reducible refine (i2 _).mono ?_); rintro e w' ⟨rfl, rfl⟩) | (go_at_call 29; (with_reducible refine (i3 _).mono ?_); rintro e w' ⟨rfl, rfl⟩))
              go_ret
              refine ⟨?_, HB3.out⟩
              rw [← HA.out]
              (try simp only [Bool.true_and, Bool.false_and, Bool.and_true, Bool.and_false, Bool.not_true, Bool.not_false, Bool.or_false, Bool.false_or, if_true, if_false, Bool.false_eq_true, List.append_nil, List.nil_append, beq_self_eq_true, Bool.true_or])
              first
                | rfl
                | (rw [HPN.out]; rfl)
                | (simp only [ByteArray.append_assoc]; rfl)
                | (simp only [mkS_app, ← ByteArray.append_assoc, HPN.out]; rfl)
                | (simp only [show ((11 : Nat) == 12) = false from rfl, show ((11 : Nat) == 11) = true from rfl, Bool.true_and, Bool.false_and, Bool.false_or, Bool.true_or, if_true, if_false, Bool.false_eq_true, List.append_nil, mkS_app, ← ByteArray.append_assoc, HPN.out]; rfl)
            | true =>
              cases c3 with
              | false =>
                go_wp2_with (first | (go_at_call 29; (with_reducible refine (i1 _).mono ?_); rintro e w' ⟨rfl, rfl⟩) | (go_at_call 29; (with_reducible refine (i2 _).mono ?_); rintro e w' ⟨rfl, rfl⟩) | (go_at_call 29; (with_reducible refine (i3 _).mono ?_); rintro e w' ⟨rfl, rfl⟩))
                go_ret
                refine ⟨?_, HB3.out⟩
                rw [← HA.out]
                (try simp only [Bool.true_and, Bool.false_and, Bool.and_true, Bool.and_false, Bool.not_true, Bool.not_false, Bool.or_false, Bool.false_or, if_true, if_false, Bool.false_eq_true, List.append_nil, List.nil_append, beq_self_eq_true, Bool.true_or])
                first
                  | rfl
                  | (rw [HPN.out]; rfl)
                  | (simp only [ByteArray.append_assoc]; rfl)
                  | (simp only [mkS_app, ← ByteArray.append_assoc, HPN.out]; rfl)
                  | (simp only [show ((11 : Nat) == 12) = false from rfl, show ((11 : Nat) == 11) = true from rfl, Bool.true_and, Bool.false_and, Bool.false_or, Bool.true_or, if_true, if_false, Bool.false_eq_true, List.append_nil, mkS_app, ← ByteArray.append_assoc, HPN.out]; rfl)
              | true =>
                go_wp2_with (first | (go_at_call 29; (with_reducible refine (i1 _).mono ?_); rintro e w' ⟨rfl, rfl⟩) | (go_at_call 29; (with_reducible refine (i2 _).mono ?_); rintro e w' ⟨rfl, rfl⟩) | (go_at_call 29; (with_reducible refine (i3 _).mono ?_); rintro e w' ⟨rfl, rfl⟩))
                go_ret
                refine ⟨?_, HB3.out⟩
                rw [← HA.out]
                (try simp only [Bool.true_and, Bool.false_and, Bool.and_true, Bool.and_false, Bool.not_true, Bool.not_false, Bool.or_false, Bool.false_or, if_true, if_false, Bool.false_eq_true, List.append_nil, List.nil_append, beq_self_eq_true, Bool.true_or])
                first
                  | rfl
                  | (rw [HPN.out]; rfl)
                  | (simp only [ByteArray.append_assoc]; rfl)
                  | (simp only [mkS_app, ← ByteArray.append_assoc, HPN.out]; rfl)
                  | (simp only [show ((11 : Nat) == 12) = false from rfl, show ((11 : Nat) == 11) = true from rfl, Bool.true_and, Bool.false_and, Bool.false_or, Bool.true_or, if_true, if_false, Bool.false_eq_true, List.append_nil, mkS_app, ← ByteArray.append_assoc, HPN.out]; rfl)
          | true =>
            cases K0 with
            | false =>
              go_wp2_with (first | (go_at_call 29; (with_reducible refine (i1 _).mono ?_); rintro e w' ⟨rfl, rfl⟩) | (go_at_call 29; (with_reducible refine (i2 _).mono ?_); rintro e w' ⟨rfl, rfl⟩) | (go_at_call 29; (with_reducible refine (i3 _).mono ?_); rintro e w' ⟨rfl, rfl⟩))
              go_ret
              refine ⟨?_, HB3.out⟩
              rw [← HA.out]
              (try simp only [Bool.true_and, Bool.false_and, Bool.and_true, Bool.and_false, Bool.not_true, Bool.not_false, Bool.or_false, Bool.false_or, if_true, if_false, Bool.false_eq_true, List.append_nil, List.nil_append, beq_self_eq_true, Bool.true_or])
              first
                | rfl
                | (rw [HPN.out]; rfl)
                | (simp only [ByteArray.append_assoc]; rfl)
                | (simp only [mkS_app, ← ByteArray.append_assoc, HPN.out]; rfl)
                | (simp only [show ((11 : Nat) == 12) = false from rfl, show ((11 : Nat) == 11) = true from rfl, Bool.true_and, Bool.false_and, Bool.false_or, Bool.true_or, if_true, if_false, Bool.false_eq_true, List.append_nil, mkS_app, ← ByteArray.append_assoc, HPN.out]; rfl)
            | true =>
              cases c3 with
              | false =>
                go_wp2_with (first | (go_at_call 29; (with_reducible refine (i1 _).mono ?_); rintro e w' ⟨rfl, rfl⟩) | (go_at_call 29; (with_reducible refine (i2 _).mono ?_); rintro e w' ⟨rfl, rfl⟩) | (go_at_call 29; (with_reducible refine (i3 _).mono ?_); rintro e w' ⟨rfl, rfl⟩))
                go_ret
                refine ⟨?_, HB3.out⟩
                rw [← HA.out]
                (try simp only [Bool.true_and, Bool.false_and, Bool.and_true, Bool.and_false, Bool.not_true, Bool.not_false, Bool.or_false, Bool.false_or, if_true, if_false, Bool.false_eq_true, List.append_nil, List.nil_append, beq_self_eq_true, Bool.true_or])
                first
                  | rfl
                  | (rw [HPN.out]; rfl)
                  | (simp only [ByteArray.append_assoc]; rfl)
                  | (simp only [mkS_app, ← ByteArray.append_assoc, HPN.out]; rfl)
                  | (simp only [show ((11 : Nat) == 12) = false from rfl, show ((11 : Nat) == 11) = true from rfl, Bool.true_and, Bool.false_and, Bool.false_or, Bool.true_or, if_true, if_false, Bool.false_eq_true, List.append_nil, mkS_app, ← ByteArray.append_assoc, HPN.out]; rfl)
              | true =>
                go_wp2_with (first | (go_at_call 29; (with_reducible refine (i1 _).mono ?_); rintro e w' ⟨rfl, rfl⟩) | (go_at_call 29; (with_reducible refine (i2 _).mono ?_); rintro e w' ⟨rfl, rfl⟩) | (go_at_call 29; (with_reducible refine (i3 _).mono ?_); rintro e w' ⟨rfl, rfl⟩))
                go_ret
                refine ⟨?_, HB3.out⟩
                rw [← HA.out]
                (try simp only [Bool.true_and, Bool.false_and, Bool.and_true, Bool.and_false, Bool.not_true, Bool.not_false, Bool.or_false, Bool.false_or, if_true, if_false, Bool.false_eq_true, List.append_nil, List.nil_append, beq_self_eq_true, Bool.true_or])
                first
                  | rfl
                  | (rw [HPN.out]; rfl)
                  | (simp only [ByteArray.append_assoc]; rfl)
                  | (simp only [mkS_app, ← ByteArray.append_assoc, HPN.out]; rfl)
                  | (simp only [show ((11 : Nat) == 12) = false from rfl, show ((11 : Nat) == 11) = true from rfl, Bool.true_and, Bool.false_and, Bool.false_or, Bool.true_or, if_true, if_false, Bool.false_eq_true, List.append_nil, mkS_app, ← ByteArray.append_assoc, HPN.out]; rfl)
  · have e12 : ((m : Int) == 12) = false := by simp; omega
    have e11 : ((m : Int) == 11) = false := by simp; omega
    have b12 : (m == 12) = false := by simpa using n12
    have b11 : (m == 11) = false := by simpa using n11
    have HB12 := Lib.hid b12
    have HB11 := Lib.hid b11
    clear n12 n11 b12 b11
    have start : True := trivial
    cases T with
    | false =>
      cases D with
      | false =>
        cases K0 with
        | false =>
          go_wp2_with (first | (go_at_call 29; (with_reducible refine (i1 _).mono ?_); rintro e w' ⟨rfl, rfl⟩) | (go_at_call 29; (with_reducible refine (i2 _).mono ?_); rintro e w' ⟨rfl, rfl⟩) | (go_at_call 29; (with_reducible refine (i3 _).mono ?_); rintro e w' ⟨rfl, rfl⟩))
          go_ret
          refine ⟨?_, HB3.out⟩
          rw [← HA.out]
          (try rw [HB12.out])
          (try rw [HB11.out])
          (try simp only [Bool.true_and, Bool.false_and, Bool.and_true, Bool.and_false, Bool.not_true, Bool.not_false, Bool.or_false, Bool.false_or, if_true, if_false, Bool.false_eq_true, List.append_nil, List.nil_append, beq_self_eq_true, Bool.true_or])
          first
            | rfl
            | (rw [HPN.out]; rfl)
            | (simp only [ByteArray.append_assoc]; rfl)
            | (simp only [mkS_app, ← ByteArray.append_assoc, HPN.out]; rfl)
            | (simp only [show ((11 : Nat) == 12) = false from rfl, show ((11 : Nat) == 11) = true from rfl, Bool.true_and, Bool.false_and, Bool.false_or, Bool.true_or, if_true, if_false, Bool.false_eq_true, List.append_nil, mkS_app, ← ByteArray.append_assoc, HPN.out]; rfl)
        | true =>
          go_wp2_with (first | (go_at_call 29; (with_reducible refine (i1 _).mono ?_); rintro e w' ⟨rfl, rfl⟩) | (go_at_call 29; (with_reducible refine (i2 _).mono ?_); rintro e w' ⟨rfl, rfl⟩) | (go_at_call 29; (with_reducible refine (i3 _).mono ?_); rintro e w' ⟨rfl, rfl⟩))
          go_ret
          refine ⟨?_, HB3.out⟩
          rw [← HA.out]
          (try rw [HB12.out])
          (try rw [HB11.out])
          (try simp only [Bool.true_and, Bool.false_and, Bool.and_true, Bool.and_false, Bool.not_true, Bool.not_false, Bool.or_false, Bool.false_or, if_true, if_false, Bool.false_eq_true, List.append_nil, List.nil_append, beq_self_eq_true, Bool.true_or])
          first
            | rfl
            | (rw [HPN.out]; rfl)
            | (simp only [ByteArray.append_assoc]; rfl)
            | (simp only [mkS_app, ← ByteArray.append_assoc, HPN.out]; rfl)
            | (simp only [show ((11 : Nat) == 12) = false from rfl, show ((11 : Nat) == 11) = true from rfl, Bool.true_and, Bool.false_and, Bool.false_or, Bool.true_or, if_true, if_false, Bool.false_eq_true, List.append_nil, mkS_app, ← ByteArray.append_assoc, HPN.out]; rfl)
      | true =>
        cases c2 with
        | false =>
          cases K0 with
          | false =>
            go_wp2_with (first | (go_at_call 29; (with_reducible refine (i1 _).mono ?_); rintro e w' ⟨rfl, rfl⟩) | (go_at_call 29; (with_reducible refine (i2 _).mono ?_); rintro e w' ⟨rfl, rfl⟩) | (go_at_call 29; (with_reducible refine (i3 _).mono ?_); rintro e w' ⟨rfl, rfl⟩))
            go_ret
            refine ⟨?_, HB3.out⟩
            rw [← HA.out]
            (try rw [HB12.out])
            (try rw [HB11.out])
            (try simp only [Bool.true_and, Bool.false_and, Bool.and_true, Bool.and_false, Bool.not_true, Bool.not_false, Bool.or_false, Bool.false_or, if_true, if_false, Bool.false_eq_true, List.append_nil, List.nil_append, beq_self_eq_true, Bool.true_or])
            first
              | rfl
              | (rw [HPN.out]; rfl)
              | (simp only [ByteArray.append_assoc]; rfl)
              | (simp only [mkS_app, ← ByteArray.append_assoc, HPN.out]; rfl)
              | (simp only [show ((11 : Nat) == 12) = false from rfl, show ((11 : Nat) == 11) = true from rfl, Bool.true_and, Bool.false_and, Bool.false_or, Bool.true_or, if_true, if_false, Bool.false_eq_true, List.append_nil, mkS_app, ← ByteArray.append_assoc, HPN.out]; rfl)
          | true =>
            go_wp2_with (first | (go_at_call 29; (with_reducible refine (i1 _).mono ?_); rintro e w' ⟨rfl, rfl⟩) | (go_at_call 29; (with_reducible refine (i2 _).mono ?_); rintro e w' ⟨rfl, rfl⟩) | (go_at_call 29; (with_reducible refine (i3 _).mono ?_); rintro e w' ⟨rfl, rfl⟩))
            go_ret
            refine ⟨?_, HB3.out⟩
            rw [← HA.out]
            (try rw [HB12.out])
            (try rw [HB11.out])
            (try simp only [Bool.true_and, Bool.false_and, Bool.and_true, Bool.and_false, Bool.not_true, Bool.not_false, Bool.or_false, Bool.false_or, if_true, if_false, Bool.false_eq_true, List.append_nil, List.nil_append, beq_self_eq_true, Bool.true_or])
            first
              | rfl
              | (rw [HPN.out]; rfl)
              | (simp only [ByteArray.append_assoc]; rfl)
              | (simp only [mkS_app, ← ByteArray.append_assoc, HPN.out]; rfl)
              | (simp only [show ((11 : Nat) == 12) = false from rfl, show ((11 : Nat) == 11) = true from rfl, Bool.true_and, Bool.false_and, Bool.false_or, Bool.true_or, if_true, if_false, Bool.false_eq_true, List.append_nil, mkS_app, ← ByteArray.append_assoc, HPN.out]; rfl)
        | true =>
          cases K0 with
          | false =>
            go_wp2_with (first | (go_at_call 29; (with_reducible refine (i1 _).mono ?_); rintro e w' ⟨rfl, rfl⟩) | (go_at_call 29; (with_reducible refine (i2 _).mono ?_); rintro e w' ⟨rfl, rfl⟩) | (go_at_call 29; (with_reducible refine (i3 _).mono ?_); rintro e w' ⟨rfl, rfl⟩))
            go_ret
            refine ⟨?_, HB3.out⟩
            rw [← HA.out]
            (try rw [HB12.out])
            (try rw [HB11.out])
            (try simp only [Bool.true_and, Bool.false_and, Bool.and_true, Bool.and_false, Bool.not_true, Bool.not_false, Bool.or_false, Bool.false_or, if_true, if_false, Bool.false_eq_true, List.append_nil, List.nil_append, beq_self_eq_true, Bool.true_or])
            first
              | rfl
              | (rw [HPN.out]; rfl)
              | (simp only [ByteArray.append_assoc]; rfl)
              | (simp only [mkS_app, ← ByteArray.append_assoc, HPN.out]; rfl)
              | (simp only [show ((11 : Nat) == 12) = false from rfl, show ((11 : Nat) == 11) = true from rfl, Bool.true_and, Bool.false_and, Bool.false_or, Bool.true_or, if_true, if_false, Bool.false_eq_true, List.append_nil, mkS_app, ← ByteArray.append_assoc, HPN.out]; rfl)
          | true =>
            go_wp2_with (first | (go_at_call 29; (with_reducible refine (i1 _).mono ?_); rintro e w' ⟨rfl, rfl⟩) | (go_at_call 29; (with_reducible refine (i2 _).mono ?_); rintro e w' ⟨rfl, rfl⟩) | (go_at_call 29; (with_reducible refine (i3 _).mono ?_); rintro e w' ⟨rfl, rfl⟩))
            go_ret
            refine ⟨?_, HB3.out⟩
            rw [← HA.out]
            (try rw [HB12.out])
            (try rw [HB11.out])
            (try simp only [Bool.true_and, Bool.false_and, Bool.and_true, Bool.and_false, Bool.not_true, Bool.not_false, Bool.or_false, Bool.false_or, if_true, if_false, Bool.false_eq_true, List.append_nil, List.nil_append, beq_self_eq_true, Bool.true_or])
            first
              | rfl
              | (rw [HPN.out]; rfl)
              | (simp only [ByteArray.append_assoc]; rfl)
              | (simp only [mkS_app, ← ByteArray.append_assoc, HPN.out]; rfl)
              | (simp only [show ((11 : Nat) == 12) = false from rfl, show ((11 : Nat) == 11) = true from rfl, Bool.true_and, Bool.false_and, Bool.false_or, Bool.true_or, if_true, if_false, Bool.false_eq_true, List.append_nil, mkS_app, ← ByteArray.append_assoc, HPN.out]; rfl)
    | true =>
      cases c1 with
      | false =>
        cases D with
        | false =>
          cases K0 with
          | false =>
            go_wp2_with (first | (go_at_call 29; (with_reducible refine (i1 _).mono ?_); rintro e w' ⟨rfl, rfl⟩) | (go_at_call 29; (with_reducible refine (i2 _).mono ?_); rintro e w' ⟨rfl, rfl⟩) | (go_at_call 29; (with_reducible refine (i3 _).mono ?_); rintro e w' ⟨rfl, rfl⟩))
            go_ret
            refine ⟨?_, HB3.out⟩
            rw [← HA.out]
            (try rw [HB12.out])
            (try rw [HB11.out])
            (try simp only [Bool.true_and, Bool.false_and, Bool.and_true, Bool.and_false, Bool.not_true, Bool.not_false, Bool.or_false, Bool.false_or, if_true, if_false, Bool.false_eq_true, List.append_nil, List.nil_append, beq_self_eq_true, Bool.true_or])
            first
              | rfl
              | (rw [HPN.out]; rfl)
              | (simp only [ByteArray.append_assoc]; rfl)
              | (simp only [mkS_app, ← ByteArray.append_assoc, HPN.out]; rfl)
              | (simp only [show ((11 : Nat) == 12) = false from rfl, show ((11 : Nat) == 11) = true from rfl, Bool.true_and, Bool.false_and, Bool.false_or, Bool.true_or, if_true, if_false, Bool.false_eq_true, List.append_nil, mkS_app, ← ByteArray.append_assoc, HPN.out]; rfl)
          | true =>
            go_wp2_with (first | (go_at_call 29; (with_reducible refine (i1 _).mono ?_); rintro e w' ⟨rfl, rfl⟩) | (go_at_call 29; (with_reducible refine (i2 _).mono ?_); rintro e w' ⟨rfl, rfl⟩) | (go_at_call 29; (with_reducible refine (i3 _).mono ?_); rintro e w' ⟨rfl, rfl⟩))
            go_ret
            refine ⟨?_, HB3.out⟩
            rw [← HA.out]
            (try rw [HB12.out])
            (try rw [HB11.out])
            (try simp only [Bool.true_and, Bool.false_and, Bool.and_true, Bool.and_false, Bool.not_true, Bool.not_false, Bool.or_false, Bool.false_or, if_true, if_false, Bool.false_eq_true, List.append_nil, List.nil_append, beq_self_eq_true, Bool.true_or])
            first
              | rfl
              | (rw [HPN.out]; rfl)
              | (simp only [ByteArray.append_assoc]; rfl)
              | (simp only [mkS_app, ← ByteArray.append_assoc, HPN.out]; rfl)
              | (simp only [show ((11 : Nat) == 12) = false from rfl, show ((11 : Nat) == 11) = true from rfl, Bool.true_and, Bool.false_and, Bool.false_or, Bool.true_or, if_true, if_false, Bool.false_eq_true, List.append_nil, mkS_app, ← ByteArray.append_assoc, HPN.out]; rfl)
        | true =>
          cases c2 with
          | false =>
            cases K0 with
            | false =>
              go_wp2_with (first | (go_at_call 29; (with_reducible refine (i1 _).mono ?_); rintro e w' ⟨rfl, rfl⟩) | (go_at_call 29; (with_reducible refine (i2 _).mono ?_); rintro e w' ⟨rfl, rfl⟩) | (go_at_call 29; (with_reducible refine (i3 _).mono ?_); rintro e w' ⟨rfl, rfl⟩))
              go_ret
              refine ⟨?_, HB3.out⟩
              rw [← HA.out]
              (try rw [HB12.out])
              (try rw [HB11.out])
              (try simp only [Bool.true_and, Bool.false_and, Bool.and_true, Bool.and_false, Bool.not_true, Bool.not_false, Bool.or_false, Bool.false_or, if_true, if_false, Bool.false_eq_true, List.append_nil, List.nil_append, beq_self_eq_true, Bool.true_or])
              first
                | rfl
                | (rw [HPN.out]; rfl)
                | (simp only [ByteArray.append_assoc]; rfl)
                | (simp only [mkS_app, ← ByteArray.append_assoc, HPN.out]; rfl)
                | (simp only [show ((11 : Nat) == 12) = false from rfl, show ((11 : Nat) == 11) = true from rfl, Bool.true_and, Bool.false_and, Bool.false_or, Bool.true_or, if_true, if_false, Bool.false_eq_true, List.append_nil, mkS_app, ← ByteArray.append_assoc, HPN.out]; rfl)
            | true =>
              go_wp2_with (first | (go_at_call 29; (with_reducible refine (i1 _).mono ?_); rintro e w' ⟨rfl, rfl⟩) | (go_at_call 29; (with_reducible refine (i2 _).mono ?_); rintro e w' ⟨rfl, rfl⟩) | (go_at_call 29; (with_reducible refine (i3 _).mono ?_); rintro e w' ⟨rfl, rfl⟩))
              go_ret
              refine ⟨?_, HB3.out⟩
              rw [← HA.out]
              (try rw [HB12.out])
              (try rw [HB11.out])
              (try simp only [Bool.true_and, Bool.false_and, Bool.and_true, Bool.and_false, Bool.not_true, Bool.not_false, Bool.or_false, Bool.false_or, if_true, if_false, Bool.false_eq_true, List.append_nil, List.nil_append, beq_self_eq_true, Bool.true_or])
              first
                | rfl
                | (rw [HPN.out]; rfl)
                | (simp only [ByteArray.append_assoc]; rfl)
                | (simp only [mkS_app, ← ByteArray.append_assoc, HPN.out]; rfl)
                | (simp only [show ((11 : Nat) == 12) = false from rfl, show ((11 : Nat) == 11) = true from rfl, Bool.true_and, Bool.false_and, Bool.false_or, Bool.true_or, if_true, if_false, Bool.false_eq_true, List.append_nil, mkS_app, ← ByteArray.append_assoc, HPN.out]; rfl)
          | true =>
            cases K0 with
            | false =>
              go_wp2_with (first | (go_at_call 29; (with_reducible refine (i1 _).mono ?_); rintro e w' ⟨rfl, rfl⟩) | (go_at_call 29; (with_reducible refine (i2 _).mono ?_); rintro e w' ⟨rfl, rfl⟩) | (go_at_call 29; (with_reducible refine (i3 _).mono ?_); rintro e w' ⟨rfl, rfl⟩))
              go_ret
              refine ⟨?_, HB3.out⟩
              rw [← HA.out]
              (try rw [HB12.out])
              (try rw [HB11.out])
              (try simp only [Bool.true_and, Bool.false_and, Bool.and_true, Bool.and_false, Bool.not_true, Bool.not_false, Bool.or_false, Bool.false_or, if_true, if_false, Bool.false_eq_true, List.append_nil, List.nil_append, beq_self_eq_true, Bool.true_or])
              first
                | rfl
                | (rw [HPN.out]; rfl)
                | (simp only [ByteArray.append_assoc]; rfl)
                | (simp only [mkS_app, ← ByteArray.append_assoc, HPN.out]; rfl)
                | (simp only [show ((11 : Nat) == 12) = false from rfl, show ((11 : Nat) == 11) = true from rfl, Bool.true_and, Bool.false_and, Bool.false_or, Bool.true_or, if_true, if_false, Bool.false_eq_true, List.append_nil, mkS_app, ← ByteArray.append_assoc, HPN.out]; rfl)
            | true =>
              go_wp2_with (first | (go_at_call 29; (with_reducible refine (i1 _).mono ?_); rintro e w' ⟨rfl, rfl⟩) | (go_at_call 29; (with_reducible refine (i2 _).mono ?_); rintro e w' ⟨rfl, rfl⟩) | (go_at_call 29; (with_reducible refine (i3 _).mono ?_); rintro e w' ⟨rfl, rfl⟩))
              go_ret
              refine ⟨?_, HB3.out⟩
              rw [← HA.out]
              (try rw [HB12.out])
              (try rw [HB11.out])
              (try simp only [Bool.true_and, Bool.false_and, Bool.and_true, Bool.and_false, Bool.not_true, Bool.not_false, Bool.or_false, Bool.false_or, if_true, if_false, Bool.false_eq_true, List.append_nil, List.nil_append, beq_self_eq_true, Bool.true_or])
              first
                | rfl
                | (rw [HPN.out]; rfl)
                | (simp only [ByteArray.append_assoc]; rfl)
                | (simp only [mkS_app, ← ByteArray.append_assoc, HPN.out]; rfl)
                | (simp only [show ((11 : Nat) == 12) = false from rfl, show ((11 : Nat) == 11) = true from rfl, Bool.true_and, Bool.false_and, Bool.false_or, Bool.true_or, if_true, if_false, Bool.false_eq_true, List.append_nil, mkS_app, ← ByteArray.append_assoc, HPN.out]; rfl)
      | true =>
        cases D with
        | false =>
          cases K0 with
          | false =>
            go_wp2_with (first | (go_at_call 29; (with_reducible refine (i1 _).mono ?_); rintro e w' ⟨rfl, rfl⟩) | (go_at_call 29; (with_reducible refine (i2 _).mono ?_); rintro e w' ⟨rfl, rfl⟩) | (go_at_call 29; (with_reducible refine (i3 _).mono ?_); rintro e w' ⟨rfl, rfl⟩))
            go_ret
            refine ⟨?_, HB3.out⟩
            rw [← HA.out]
            (try rw [HB12.out])
            (try rw [HB11.out])
            (try simp only [Bool.true_and, Bool.false_and, Bool.and_true, Bool.and_false, Bool.not_true, Bool.not_false, Bool.or_false, Bool.false_or, if_true, if_false, Bool.false_eq_true, List.append_nil, List.nil_append, beq_self_eq_true, Bool.true_or])
            first
              | rfl
              | (rw [HPN.out]; rfl)
              | (simp only [ByteArray.append_assoc]; rfl)
              | (simp only [mkS_app, ← ByteArray.append_assoc, HPN.out]; rfl)
              | (simp only [show ((11 : Nat) == 12) = false from rfl, show ((11 : Nat) == 11) = true from rfl, Bool.true_and, Bool.false_and, Bool.false_or, Bool.true_or, if_true, if_false, Bool.false_eq_true, List.append_nil, mkS_app, ← ByteArray.append_assoc, HPN.out]; rfl)
          | true =>
            go_wp2_with (first | (go_at_call 29; (with_reducible refine (i1 _).mono ?_); rintro e w' ⟨rfl, rfl⟩) | (go_at_call 29; (with_reducible refine (i2 _).mono ?_); rintro e w' ⟨rfl, rfl⟩) | (go_at_call 29; (with_reducible refine (i3 _).mono ?_); rintro e w' ⟨rfl, rfl⟩))
            go_ret
            refine ⟨?_, HB3.out⟩
            rw [← HA.out]
            (try rw [HB12.out])
            (try rw [HB11.out])
            (try simp only [Bool.true_and, Bool.false_and, Bool.and_true, Bool.and_false, Bool.not_true, Bool.not_false, Bool.or_false, Bool.false_or, if_true, if_false, Bool.false_eq_true, List.append_nil, List.nil_append, beq_self_eq_true, Bool.true_or])
            first
              | rfl
              | (rw [HPN.out]; rfl)
              | (simp only [ByteArray.append_assoc]; rfl)
              | (simp only [mkS_app, ← ByteArray.append_assoc, HPN.out]; rfl)
              | (simp only [show ((11 : Nat) == 12) = false from rfl, show ((11 : Nat) == 11) = true from rfl, Bool.true_and, Bool.false_and, Bool.false_or, Bool.true_or, if_true, if_false, Bool.false_eq_true, List.append_nil, mkS_app, ← ByteArray.append_assoc, HPN.out]; rfl)
        | true =>
          cases c2 with
          | false =>
            cases K0 with
            | false =>
              go_wp2_with (first | (go_at_call 29; (with_reducible refine (i1 _).mono ?_); rintro e w' ⟨rfl, rfl⟩) | (go_at_call 29; (with_reducible refine (i2 _).mono ?_); rintro e w' ⟨rfl, rfl⟩) | (go_at_call 29; (with_reducible refine (i3 _).mono ?_); rintro e w' ⟨rfl, rfl⟩))
              go_ret
              refine ⟨?_, HB3.out⟩
              rw [← HA.out]
              (try rw [HB12.out])
              (try rw [HB11.out])
              (try simp only [Bool.true_and, Bool.false_and, Bool.and_true, Bool.and_false, Bool.not_true, Bool.not_false, Bool.or_false, Bool.false_or, if_true, if_false, Bool.false_eq_true, List.append_nil, List.nil_append, beq_self_eq_true, Bool.true_or])
              first
                | rfl
                | (rw [HPN.out]; rfl)
                | (simp only [ByteArray.append_assoc]; rfl)
                | (simp only [mkS_app, ← ByteArray.append_assoc, HPN.out]; rfl)
                | (simp only [show ((11 : Nat) == 12) = false from rfl, show ((11 : Nat) == 11) = true from rfl, Bool.true_and, Bool.false_and, Bool.false_or, Bool.true_or, if_true, if_false, Bool.false_eq_true, List.append_nil, mkS_app, ← ByteArray.append_assoc, HPN.out]; rfl)
            | true =>
              go_wp2_with (first | (go_at_call 29; (with_reducible refine (i1 _).mono ?_); rintro e w' ⟨rfl, rfl⟩) | (go_at_call 29; (with_reducible refine (i2 _).mono ?_); rintro e w' ⟨rfl, rfl⟩) | (go_at_call 29; (with_reducible refine (i3 _).mono ?_); rintro e w' ⟨rfl, rfl⟩))
              go_ret
              refine ⟨?_, HB3.out⟩
              rw [← HA.out]
              (try rw [HB12.out])
              (try rw [HB11.out])
              (try simp only [Bool.true_and, Bool.false_and, Bool.and_true, Bool.and_false, Bool.not_true, Bool.not_false, Bool.or_false, Bool.false_or, if_true, if_false, Bool.false_eq_true, List.append_nil, List.nil_append, beq_self_eq_true, Bool.true_or])
              first
                | rfl
                | (rw [HPN.out]; rfl)
                | (simp only [ByteArray.append_assoc]; rfl)
                | (simp only [mkS_app, ← ByteArray.append_assoc, HPN.out]; rfl)
                | (simp only [show ((11 : Nat) == 12) = false from rfl, show ((11 : Nat) == 11) = true from rfl, Bool.true_and, Bool.false_and, Bool.false_or, Bool.true_or, if_true, if_false, Bool.false_eq_true, List.append_nil, mkS_app, ← ByteArray.append_assoc, HPN.out]; rfl)
          | true =>
            cases K0 with
            | false =>
              go_wp2_with (first | (go_at_call 29; (with_reducible refine (i1 _).mono ?_); rintro e w' ⟨rfl, rfl⟩) | (go_at_call 29; (with_reducible refine (i2 _).mono ?_); rintro e w' ⟨rfl, rfl⟩) | (go_at_call 29; (with_reducible refine (i3 _).mono ?_); rintro e w' ⟨rfl, rfl⟩))
              go_ret
              refine ⟨?_, HB3.out⟩
              rw [← HA.out]
              (try rw [HB12.out])
              (try rw [HB11.out])
              (try simp only [Bool.true_and, Bool.false_and, Bool.and_true, Bool.and_false, Bool.not_true, Bool.not_false, Bool.or_false, Bool.false_or, if_true, if_false, Bool.false_eq_true, List.append_nil, List.nil_append, beq_self_eq_true, Bool.true_or])
              first
                | rfl
                | (rw [HPN.out]; rfl)
                | (simp only [ByteArray.append_assoc]; rfl)
                | (simp only [mkS_app, ← ByteArray.append_assoc, HPN.out]; rfl)
                | (simp only [show ((11 : Nat) == 12) = false from rfl, show ((11 : Nat) == 11) = true from rfl, Bool.true_and, Bool.false_and, Bool.false_or, Bool.true_or, if_true, if_false, Bool.false_eq_true, List.append_nil, mkS_app, ← ByteArray.append_assoc, HPN.out]; rfl)
            | true =>
              go_wp2_with (first | (go_at_call 29; (with_reducible refine (i1 _).mono ?_); rintro e w' ⟨rfl, rfl⟩) | (go_at_call 29; (with_reducible refine (i2 _).mono ?_); rintro e w' ⟨rfl, rfl⟩) | (go_at_call 29; (with_reducible refine (i3 _).mono ?_); rintro e w' ⟨rfl, rfl⟩))
              go_ret
              refine ⟨?_, HB3.out⟩
              rw [← HA.out]
              (try rw [HB12.out])
              (try rw [HB11.out])
              (try simp only [Bool.true_and, Bool.false_and, Bool.and_true, Bool.and_false, Bool.not_true, Bool.not_false, Bool.or_false, Bool.false_or, if_true, if_false, Bool.false_eq_true, List.append_nil, List.nil_append, beq_self_eq_true, Bool.true_or])
              first
                | rfl
                | (rw [HPN.out]; rfl)
                | (simp only [ByteArray.append_assoc]; rfl)
                | (simp only [mkS_app, ← ByteArray.append_assoc, HPN.out]; rfl)
                | (simp only [show ((11 : Nat) == 12) = false from rfl, show ((11 : Nat) == 11) = true from rfl, Bool.true_and, Bool.false_and, Bool.false_or, Bool.true_or, if_true, if_false, Bool.false_eq_true, List.append_nil, mkS_app, ← ByteArray.append_assoc, HPN.out]; rfl)
end Go.Proofs.YtmbbcfdeielopaaDoorRRRR
