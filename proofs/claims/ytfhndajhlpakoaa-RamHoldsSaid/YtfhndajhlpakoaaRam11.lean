/-
  The reference's answers of work memory: Of, Blocks, Other; Same of bytes.
-/
import Derived.Test.YtfhndajhlpakoaaRam5
import Derived.Test.YtfhndajhlpakoaaCart3
import Derived.Deep.LoopGhost
namespace Go.Proofs.Ytfhndajhlpakoaa
open Go.RowKit
set_option linter.unusedVariables false
set_option linter.unusedSimpArgs false
set_option maxRecDepth 100000
set_option maxHeartbeats 2000000 in
theorem rof_any (A : Option Addr) (m c : Nat) (ps : Nat → Pc) (w : World) (hm : m ≤ maxLen) (R : PRow w A m ps) :
    Calls Try.prog 16 #[.slice A m c] w (MakeR ps m 8192 w) := by
  have RH := Lib.hid R
  have HM := Lib.hid hm
  clear R hm
  have hB0 : Below w.heap.size w (w.alloc (.cells #[.int .i64 0, .int .i64 0] 30)) := (Below.refl _ _).alloc (Nat.le_refl _) _
  have hF0 : Blk (w.alloc (.cells #[.int .i64 0, .int .i64 0] 30)) w.heap.size 30 #[.int .i64 0, .int .i64 0] := Blk.new _ _ _
  go_enter Try.func16, Try.ntmps16
  go_wp2_with fail
  refine (rmake_any 1 8192 A m c ps _ (by kernel_rfl) (by omega) HM.out (RH.out.keep hB0)).mono ?_
  rintro e w1 ⟨hb, hres⟩
  have hB1 := hB0.trans (hb.mono hB0.size)
  have hF1 := hF0.below hb hF0.lt
  have f0 : w1.frozen? ⟨w.heap.size, 0, none⟩ = false := hF1.frozen 0
  have f1 : w1.frozen? ⟨w.heap.size, 1, none⟩ = false := hF1.frozen 1
  have c0 : w1.cell? ⟨w.heap.size, 0, none⟩ = some (.int .i64 0) := hF1.cell 0
  have c1 : w1.cell? ⟨w.heap.size, 1, none⟩ = some (.int .i64 0) := hF1.cell 1
  have kp : ∀ u v : Value, Kp [w.heap.size] w1 ((w1.setCell ⟨w.heap.size, 0, none⟩ u).setCell ⟨w.heap.size, 1, none⟩ v) := fun u v => ((Kp.refl _ _).setCell (.inl (by simp)) _).setCell (.inl (by simp)) _
  have KP := Lib.hid kp
  have HF1 := Lib.hid hF1
  have hs0 := hB0.size
  have hs1 := hB1.size
  clear kp hF0 hF1 hb
  rcases hres with ⟨j, hj, hbad, hgd, rfl⟩ | ⟨hall, gp, C, rfl, hgp, hC, hBA⟩
  · go_wp2_with fail
    refine bodyPost_ret (v := .tuple #[.slice none 0 0, .agg #[.int .i64 1, .int .i64 j]]) (by simp [results, Try.results16, go_sem, c0, c1]) rfl ?_
    exact ⟨(KP.out _ _).onto hB1 hs1 (by simp), .inl ⟨j, hj, hbad, hgd, rfl⟩⟩
  · have HC := Lib.hid hC
    have HBA := Lib.hid hBA
    clear hC hBA
    go_wp2_with fail
    refine bodyPost_ret (v := .tuple #[.slice (some ⟨gp, 0, none⟩) 8192 8192, .agg #[.int .i64 0, .int .i64 0]]) (by simp [results, Try.results16, go_sem, c0, c1]) rfl ?_
    have hgp' : w.heap.size ≤ gp := by simp at hgp; omega
    exact ⟨(KP.out _ _).onto hB1 hs1 (by simp), .inr ⟨hall, gp, C, rfl, hgp', HC.out.kp (KP.out _ _) (by simpa using HC.out.ne_ HF1.out (by decide)), HBA.out⟩⟩
set_option maxHeartbeats 2000000 in
theorem rother_any {w : World} (A B : Option Addr) (c d : Nat) (a b : Nat → Int) (R : IRow w .u8 A 8192 a) (Q : IRow w .u8 B 8192 b) :
    Calls Try.prog 21 #[.slice A 8192 c, .slice B 8192 d] w fun e w' => (∃ r, e = .returned (.int .i64 r) ∧ FirstD a b 8192 r) ∧ Below w.heap.size w w' := by
  have HR := Lib.hid R
  have HQ := Lib.hid Q
  clear R Q
  go_enter Try.func21, Try.ntmps21
  go_wp2_with fail
  go_loopw [5] (fun i wr => ∃ k : Nat, k ≤ 8192 ∧ i = .int .i64 k ∧ (∀ j, j < k → a j = b j) ∧ ∃ nq, wr = w.drewN nq) (fun i _ => 8192 - (intOf i).toNat)
  case atStart => exact ⟨0, by omega, rfl, fun j hj => absurd hj (by omega), 0, rfl⟩
  case round =>
    obtain ⟨k, hk, rfl, he, nq, rfl⟩ := hrel
    have HE := Lib.hid he
    clear he
    by_cases hlt : k < 8192
    · obtain ⟨ad, rfl, _, ca, _⟩ := HR.out k hlt
      obtain ⟨bd, rfl, _, cb, _⟩ := HQ.out k hlt
      have i0 : (0 : Int) ≤ (k : Int) := by omega
      have i1 : (k : Int) < 8192 := by omega
      by_cases hab : a k = b k
      · have hne : (a k != b k) = false := by rw [hab]; simp
        have HAB := Lib.hid hab
        clear hab
        go_wp2_with fail
        go_quiet (fail)
        go_wp2
        go_roundw
        case rel => exact ⟨k + 1, by omega, by go_num, fun j hj => (Nat.lt_or_eq_of_le (Nat.le_of_lt_succ hj)).elim (HE.out j) (fun e => by rw [e]; exact HAB.out), _, rfl⟩
        case measure => simp [intOf]; omega
      · have hne : (a k != b k) = true := by simpa using hab
        have HAB := Lib.hid hab
        clear hab
        go_wp2_with fail
        go_quiet (fail)
        go_wp2
        go_ret
        refine ⟨⟨_, rfl, .inr ⟨k, hlt, rfl, HAB.out, HE.out⟩⟩, ?_⟩
        first | exact below_drewN (Below.refl _ _) _ | exact below_drewN (below_drewN (Below.refl _ _) _) _
    · obtain rfl : k = 8192 := by omega
      go_wp2
      go_ret
      exact ⟨⟨_, rfl, .inl ⟨rfl, HE.out⟩⟩, below_drewN (Below.refl _ _) _⟩
set_option maxHeartbeats 2000000 in
theorem rsameB_any {w : World} (A B : Option Addr) (c d : Nat) (a b : Nat → Int) (R : IRow w .u8 A 8192 a) (Q : IRow w .u8 B 8192 b) :
    Calls Try.prog 23 #[.slice A 8192 c, .slice B 8192 d] w fun e w' => (∃ r, e = .returned (.bool (SameB r)) ∧ FirstD a b 8192 r) ∧ Below w.heap.size w w' := by
  have HR := Lib.hid R
  have HQ := Lib.hid Q
  clear R Q
  go_enter Try.func23, Try.ntmps23
  go_wp2_with fail
  go_loopw [5] (fun i wr => ∃ k : Nat, k ≤ 8192 ∧ i = .int .i64 k ∧ (∀ j, j < k → a j = b j) ∧ ∃ nq, wr = w.drewN nq) (fun i _ => 8192 - (intOf i).toNat)
  case atStart => exact ⟨0, by omega, rfl, fun j hj => absurd hj (by omega), 0, rfl⟩
  case round =>
    obtain ⟨k, hk, rfl, he, nq, rfl⟩ := hrel
    have HE := Lib.hid he
    clear he
    by_cases hlt : k < 8192
    · obtain ⟨ad, rfl, _, ca, _⟩ := HR.out k hlt
      obtain ⟨bd, rfl, _, cb, _⟩ := HQ.out k hlt
      have i0 : (0 : Int) ≤ (k : Int) := by omega
      have i1 : (k : Int) < 8192 := by omega
      by_cases hab : a k = b k
      · have hne : (a k != b k) = false := by rw [hab]; simp
        have HAB := Lib.hid hab
        clear hab
        go_wp2_with fail
        go_quiet (fail)
        go_wp2
        go_roundw
        case rel => exact ⟨k + 1, by omega, by go_num, fun j hj => (Nat.lt_or_eq_of_le (Nat.le_of_lt_succ hj)).elim (HE.out j) (fun e => by rw [e]; exact HAB.out), _, rfl⟩
        case measure => simp [intOf]; omega
      · have hne : (a k != b k) = true := by simpa using hab
        have HAB := Lib.hid hab
        clear hab
        go_wp2_with fail
        go_quiet (fail)
        go_wp2
        go_ret
        refine ⟨⟨(k : Int), ?_, .inr ⟨k, hlt, rfl, HAB.out, HE.out⟩⟩, ?_⟩
        · unfold SameB; rw [decide_eq_false (by omega)]; rfl
        · first | exact below_drewN (Below.refl _ _) _ | exact below_drewN (below_drewN (Below.refl _ _) _) _
    · obtain rfl : k = 8192 := by omega
      go_wp2
      go_ret
      exact ⟨⟨-1, rfl, .inl ⟨rfl, HE.out⟩⟩, below_drewN (Below.refl _ _) _⟩
def anyTo (f : Nat → Int) (b i : Nat) : Bool := (List.range i).any fun j => f (64 * b + j) != 0
theorem anyTo_succ (f : Nat → Int) (b i : Nat) : anyTo f b (i + 1) = (anyTo f b i || (f (64 * b + i) != 0)) := by
  unfold anyTo
  rw [List.range_succ, List.any_append]
  simp
set_option maxHeartbeats 4000000 in
theorem rblocks_any {w : World} (A : Option Addr) (c : Nat) (f : Nat → Int) (R : IRow w .u8 A 8192 f) :
    Calls Try.prog 52 #[.slice A 8192 c] w fun e w' => e = .returned (.int .i64 (cnt f 128)) ∧ w = w' := by
  obtain ⟨ad, rfl, _⟩ := R 0 (by omega)
  have HR := Lib.hid R
  clear R
  go_enter Try.func52, Try.ntmps52
  go_wp2_with fail
  go_loop [3, 4] (fun n b => ∃ k : Nat, k ≤ 128 ∧ b = .int .i64 k ∧ n = .int .i64 (cnt f k)) (fun _ b => 128 - (intOf b).toNat)
  case atStart => exact ⟨0, by omega, rfl, rfl⟩
  case round =>
    obtain ⟨k, hk, rfl, rfl⟩ := hrel
    by_cases hlt : k < 128
    · have i0 : (0 : Int) ≤ (k : Int) := by omega
      have i1 : (k : Int) < 128 := by omega
      have hcl := cnt_le f k
      obtain ⟨q, hq⟩ : ∃ q, cnt f k = q := ⟨_, rfl⟩
      rw [hq] at hcl ⊢
      have HQ := Lib.hid hq
      clear hq
      go_wp2_with fail
      go_loop [5, 6] (fun s i => ∃ j : Nat, j ≤ 64 ∧ i = .int .i64 j ∧ s = .bool (anyTo f k j)) (fun _ i => 64 - (intOf i).toNat)
      case atStart => exact ⟨0, by omega, rfl, rfl⟩
      case round =>
        obtain ⟨j, hj, rfl, rfl⟩ := hrel
        by_cases hlj : j < 64
        · have j0 : (0 : Int) ≤ (j : Int) := by omega
          have j1 : (j : Int) < 64 := by omega
          obtain ⟨ad2, e, _, cc, _⟩ := HR.out (64 * k + j) (by omega)
          cases e
          have e1 : ((64 : Int) * k + j).toNat = 64 * k + j := by omega
          have e2 : (0 : Int) ≤ 64 * (k : Int) + j := by omega
          have e3 : 64 * (k : Int) + j < 8192 := by omega
          have hs := anyTo_succ f k j
          have HS := Lib.hid hs
          clear hs
          cases hb : anyTo f k j with
          | true =>
            go_wp2_with fail
            go_round
            case rel => exact ⟨j + 1, by omega, by go_num, by rw [HS.out, hb]; rfl⟩
            case measure => simp [intOf]; omega
          | false =>
            go_wp2_with fail
            go_round
            case rel => exact ⟨j + 1, by omega, by go_num, by rw [HS.out, hb]; rfl⟩
            case measure => simp [intOf]; omega
        · obtain rfl : j = 64 := by omega
          have hnz : anyTo f k 64 = nz f k := rfl
          rw [hnz]
          cases hb : nz f k
          all_goals
            have hcs : cnt f (k + 1) = q + (if nz f k then 1 else 0) := by rw [← HQ.out]; rfl
            rw [hb] at hcs
            have HCS := Lib.hid hcs
            clear hcs
            go_wp2_with fail
            go_round
            case rel => exact ⟨k + 1, by omega, by go_num, by rw [HCS.out]; go_num⟩
            case measure => simp [intOf]; omega
    · obtain rfl : k = 128 := by omega
      go_wp2
      go_ret
      exact ⟨rfl, rfl⟩
end Go.Proofs.Ytfhndajhlpakoaa
