/-
  The reference's noise: Next, Jump, New, Go, Level, Copy.
-/
import Derived.Test.YtcnjekballnncaaNoi7
namespace Go.Proofs.Ytcnjekballnncaa
open Go.RowKit
set_option linter.unusedVariables false
set_option linter.unusedSimpArgs false
set_option maxRecDepth 100000
def tapN (k : Nat) : Nat := if k = 0 then 0 else if k = 1 then 1 else if k = 2 then 11 else if k = 3 then 12 else 17
def tapC : Array Value := #[.int .i64 0, .int .i64 1, .int .i64 11, .int .i64 12, .int .i64 17]
theorem tapC_at (k : Nat) (hk : k < 5) : tapC[k]? = some (.int .i64 (tapN k)) := by
  have : k = 0 ∨ k = 1 ∨ k = 2 ∨ k = 3 ∨ k = 4 := by omega
  rcases this with rfl | rfl | rfl | rfl | rfl <;> rfl
theorem tapN_le (k : Nat) : tapN k ≤ 17 := by unfold tapN; repeat' split
                                              all_goals omega
def tapS (s : Nat) : Nat → Nat
  | 0 => 0
  | k + 1 => tapS s k + s / 2 ^ tapN k % 2
theorem tapS_le (s k : Nat) : tapS s k ≤ k := by
  induction k with
  | zero => exact Nat.le_refl _
  | succ k ih => simp only [tapS]; omega
theorem half_next (s m : Nat) : s / 2 ^ (m + 1) = s / 2 ^ m / 2 := by rw [Nat.pow_succ, Nat.div_div_eq_div_mul]
set_option maxHeartbeats 2000000 in
theorem rnext_any (s : Nat) (hs : s < 4294967296) (w : World) :
    Calls Try.prog 15 #[.int .u32 s] w fun e w' => e = .returned (.int .u32 (nx (s % 2 ^ 18) : Nat)) ∧ Below w.heap.size w w' := by
  obtain ⟨t, ht⟩ : ∃ t, s % 262144 = t := ⟨_, rfl⟩
  have ht0 : t < 262144 := by omega
  have e1 : (s : Int) % 262144 = (t : Int) := by rw [← ht]; rfl
  rw [show (2 : Nat) ^ 18 = 262144 from rfl, ht]
  go_enter Try.func15, Try.ntmps15
  go_wp2_with fail
  have HX := Lib.hid (Blk.new w 66 tapC)
  have HB := Lib.hid ((Below.refl w.heap.size w).alloc (Nat.le_refl _) (.cells tapC 66))
  unfold tapC at HB HX
  rw [e1]
  clear e1 ht
  generalize w.alloc _ = w1 at *
  generalize hg : w.heap.size = g at *
  have HGG := Lib.hid hg
  clear hg
  go_loopw [4, 5] (fun y i wr => ∃ k : Nat, k ≤ 5 ∧ i = .int .i64 k ∧ y = .int .u32 (tapS t k : Nat) ∧ wr = w1) (fun _ i _ => 5 - (intOf i).toNat)
  case atStart => exact ⟨0, by omega, rfl, rfl, rfl⟩
  case round =>
    obtain ⟨k, hk, rfl, rfl, rfl⟩ := hrel
    by_cases hlt : k < 5
    · have c0 : wr.cell? ⟨g, k, none⟩ = some (.int .i64 (tapN k)) := by rw [HX.out.cell k]; exact tapC_at k hlt
      have i1 : (k : Int) < 5 := by omega
      have i0 : (0 : Int) ≤ (k : Int) := by omega
      have i2 : (k : Int) ≤ 5 := by omega
      have l1 := tapN_le k
      have l2 := tapS_le t k
      have l3 : tapS t (k + 1) = tapS t k + t / 2 ^ tapN k % 2 := rfl
      have L3 := Lib.hid l3
      clear l3
      generalize tapN k = q at *
      go_wp2_with fail
      go_loopw [6, 7] (fun x j wx => ∃ m : Nat, m ≤ q ∧ j = .int .i64 m ∧ x = .int .u32 (t / 2 ^ m : Nat) ∧ wx = wr) (fun _ j _ => q - (intOf j).toNat)
      case atStart => exact ⟨0, by omega, rfl, by rw [Nat.pow_zero, Nat.div_one], rfl⟩
      case round =>
        obtain ⟨m, hm, rfl, rfl, rfl⟩ := hrel
        have d1 : t / 2 ^ m ≤ t := Nat.div_le_self _ _
        have d2 := half_next t m
        by_cases hlt2 : m < q
        · have m1 : (m : Int) < q := by omega
          obtain ⟨d', hd'⟩ : ∃ d', t / 2 ^ (m + 1) = d' := ⟨_, rfl⟩
          rw [hd'] at d2
          have HD' := Lib.hid hd'
          clear hd'
          generalize t / 2 ^ m = d at *
          have d3 : (d : Int) / 2 = (d' : Int) := by rw [d2]; rfl
          have D2 := Lib.hid d2
          clear d2
          go_wp2_with fail
          first | go_region | skip
          go_wp2_with fail
          go_roundw
          case rel => exact ⟨m + 1, by omega, by go_num, by rw [HD'.out], by first | rfl | trivial⟩
          case measure => simp [intOf]; omega
        · obtain rfl : m = q := by omega
          clear d2
          generalize t / 2 ^ m = d at *
          go_wp2_with fail
          first | go_region | skip
          go_wp2_with fail
          go_roundw
          case rel => exact ⟨k + 1, by omega, by go_num, by rw [L3.out]; go_num, by first | rfl | trivial⟩
          case measure => simp [intOf]; omega
    · obtain rfl : k = 5 := by omega
      have e5 : nx t = 131072 * (tapS t 5 % 2) + t / 2 := by
        show 131072 * nxP t + t / 2 = 131072 * ((0 + t / 2 ^ 0 % 2 + t / 2 ^ 1 % 2 + t / 2 ^ 11 % 2 + t / 2 ^ 12 % 2 + t / 2 ^ 17 % 2) % 2) + t / 2
        rw [Nat.zero_add]; rfl
      have l2 := tapS_le t 5
      generalize tapS t 5 = y at *
      have E5 := Lib.hid e5
      clear e5
      go_wp2_with fail
      go_ret
      refine ⟨?_, by rw [HGG.out]; exact HB.out⟩
      rw [E5.out]; go_num
theorem rjump_any (s N : Nat) (hs : s < 4294967296) (hN : N ≤ 9223372036854775807) (w : World) :
    Calls Try.prog 13 #[.int .u32 s, .int .i64 N] w fun e w' => e = .returned (.int .u32 (it nx N (s % 2 ^ 18) : Nat)) ∧ Below w.heap.size w w' := by
  obtain ⟨t, ht⟩ : ∃ t, s % 262144 = t := ⟨_, rfl⟩
  have ht0 : t < 262144 := by omega
  have e1 : (s : Int) % 262144 = (t : Int) := by rw [← ht]; rfl
  rw [show (2 : Nat) ^ 18 = 262144 from rfl, ht]
  have HT := Lib.hid ht0
  clear ht ht0
  go_enter Try.func13, Try.ntmps13
  go_wp2_with fail
  rw [e1]
  clear e1
  go_loopw [0, 5] (fun x i wr => ∃ k : Nat, k ≤ N ∧ i = .int .i64 k ∧ x = .int .u32 (it nx k t : Nat) ∧ Below w.heap.size w wr) (fun _ i _ => N - (intOf i).toNat)
  case atStart => exact ⟨0, by omega, rfl, rfl, Below.refl _ _⟩
  case round =>
    obtain ⟨k, hk, rfl, rfl, hB⟩ := hrel
    have HB := Lib.hid hB
    clear hB
    by_cases hlt : k < N
    · have hl : it nx k t < 262144 := it_lt nx_lin k HT.out
      have HL : Hid (it nx (k + 1) t = nx (it nx k t)) := Lib.hid rfl
      generalize it nx k t = y at *
      have i1 : (k : Int) < (N : Int) := by omega
      go_wp2_with fail
      refine (rnext_any y (by omega) _).mono ?_
      rw [Nat.mod_eq_of_lt (show y < 2 ^ 18 from hl)]
      rintro e w1 ⟨rfl, b1⟩
      have HB1 := Lib.hid (HB.out.trans (b1.mono HB.out.size))
      clear b1 HB
      go_wp2_with fail
      go_roundw
      case rel => exact ⟨k + 1, by omega, by go_num, by rw [HL.out], HB1.out⟩
      case measure => simp [intOf]; omega
    · obtain rfl : k = N := by omega
      go_wp2_with fail
      go_ret
      exact ⟨rfl, HB.out⟩
def rnC (x : Nz) : Array Value := #[.int .u32 x.st, .int .i64 x.left, .int .u8 x.fr]
/-- In block r there is the reference's noise. -/
def RNZ (w : World) (r : Nat) (x : Nz) : Prop := Blk w r 41 (rnC x) ∧ x.ok
def RnR (r : Nat) (x : Nz) (w : World) (e : Ending) (w' : World) : Prop := e = .returned (.tuple #[]) ∧ RNZ w' r x ∧ Kp [r] w w'
def RnNewR (x : Nz) (w : World) (e : Ending) (w' : World) : Prop := e = .returned (.pointer (some ⟨w.heap.size, 0, none⟩)) ∧ RNZ w' w.heap.size x ∧ Below w.heap.size w w'
section
variable {w w' : World} {r : Nat} {x x' : Nz}
theorem RNZ.kp {L : List Nat} (h : RNZ w r x) (k : Kp L w w') (hL : r ∉ L) : RNZ w' r x := ⟨h.1.kp k hL, h.2⟩
theorem RNZ.keep {n : Nat} (h : RNZ w r x) (k : Below n w w') (hn : r < n) : RNZ w' r x := ⟨h.1.below k hn, h.2⟩
theorem RNZ.lt (h : RNZ w r x) : r < w.heap.size := h.1.lt
theorem RNZ.cells (h : RNZ w r x) : w.cell? ⟨r, 0, none⟩ = some (.int .u32 x.st) ∧ w.cell? ⟨r, 1, none⟩ = some (.int .i64 x.left) ∧ w.cell? ⟨r, 2, none⟩ = some (.int .u8 x.fr) := ⟨h.1.cell 0, h.1.cell 1, h.1.cell 2⟩
theorem RNZ.put {v : Value} {k : Nat} (h : RNZ w r x) (e : (rnC x).setIfInBounds k v = rnC x') (hs : x'.ok) : RNZ (w.setCell ⟨r, k, none⟩ v) r x' ∧ Kp [r] w (w.setCell ⟨r, k, none⟩ v) := by
  refine ⟨⟨?_, hs⟩, (Kp.refl _ _).setCell (.inl (by simp)) _⟩
  rw [← e]
  exact h.1.set_ k v
theorem rnlevel_any (h : RNZ w r x) :
    Calls Try.prog 52 #[.pointer (some ⟨r, 0, none⟩)] w fun e w' => e = .returned (.int .u8 (lvN x.st)) ∧ w = w' := by
  obtain ⟨c0, c1, c2⟩ := h.cells
  obtain ⟨⟨k0, k1⟩, _, _⟩ := h.2
  clear h
  rcases Nat.mod_two_eq_zero_or_one x.st with h1 | h1
  · have e1 : (x.st : Int) % 2 = 0 := by omega
    have e2 : lvN x.st = 0 := by unfold lvN; rw [if_neg (by omega)]
    rw [e2]
    go_enter Try.func52, Try.ntmps52
    go_wp2
    go_ret
    exact ⟨rfl, rfl⟩
  · have e1 : (x.st : Int) % 2 = 1 := by omega
    have e2 : lvN x.st = 31 := by unfold lvN; rw [if_pos h1]
    rw [e2]
    go_enter Try.func52, Try.ntmps52
    go_wp2
    go_ret
    exact ⟨rfl, rfl⟩
set_option maxHeartbeats 2000000 in
theorem rngo_any (h : RNZ w r x) (N : Nat) (hN : N ≤ 9223372036854775807) :
    Calls Try.prog 51 #[.pointer (some ⟨r, 0, none⟩), .int .i64 N] w (RnR r (x.go N) w) := by
  have H := Lib.hid h
  clear h
  go_enter Try.func51, Try.ntmps51
  go_wp2_with fail
  go_loopw [1] (fun m wr => ∃ (M : Nat) (y : Nz), m = .int .i64 M ∧ M ≤ N ∧ RNZ wr r y ∧ y.go M = x.go N ∧ Kp [r] w wr) (fun m _ => (intOf m).toNat)
  case atStart => exact ⟨N, x, rfl, Nat.le_refl _, H.out, rfl, Kp.refl _ _⟩
  case round =>
    obtain ⟨M, y, rfl, hM, hy, hgo, hK⟩ := hrel
    obtain ⟨c0, c1, c2⟩ := hy.cells
    have f0 := hy.1.frozen 0
    have f1 := hy.1.frozen 1
    obtain ⟨⟨a0, a1⟩, ⟨l0, l1⟩, q0, q1⟩ := hy.2
    have HY := Lib.hid hy
    have HG := Lib.hid hgo
    have HK := Lib.hid hK
    clear hy hgo hK H
    by_cases hle : y.left ≤ M
    · have gs := Nz.go_step hle
      have nok : (⟨nx y.st, perN y.fr, y.fr⟩ : Nz).ok := ⟨⟨it_pos a1 a0 1, nx_lt _ a1⟩, perN_bd _, q0, q1⟩
      have j1 : (y.left : Int) ≤ (M : Int) := by omega
      rw [HG.out] at gs
      have GS := Lib.hid gs
      have NOK := Lib.hid nok
      clear gs nok
      go_wp2_with fail
      refine (rnext_any y.st (by omega) _).mono ?_
      rw [Nat.mod_eq_of_lt a1]
      rintro e w1 ⟨rfl, b1⟩
      have h1 := HY.out.keep b1 HY.out.lt
      obtain ⟨d0, d1, d2⟩ := h1.cells
      have g0 := h1.1.frozen 0
      obtain ⟨p1, p2⟩ := h1.put (k := 0) (v := .int .u32 (nx y.st : Nat)) (x' := ⟨nx y.st, y.left, y.fr⟩) rfl ⟨NOK.out.1, h1.2.2⟩
      have P1 := Lib.hid p1
      have K1 := Lib.hid ((HK.out.trans (Kp.of_below (L := []) b1) (by simp)).trans p2 (by simp))
      obtain ⟨e0, e1, e2⟩ := p1.cells
      have g1 := p1.1.frozen 1
      obtain ⟨p3, p4⟩ := p1.put (k := 1) (v := .int .i64 (perN y.fr : Nat)) (x' := ⟨nx y.st, perN y.fr, y.fr⟩) rfl NOK.out
      have P3 := Lib.hid p3
      have K3 := Lib.hid (K1.out.trans p4 (by simp))
      dsimp only at e0 e1 e2
      clear h1 p1 p2 p3 p4 b1 c0 c1 c2 f0 f1 d1 d2
      go_wp2_with fail
      refine (rperiod_any y.fr _ q0 q1).mono ?_
      rintro e w' ⟨rfl, rfl⟩
      go_wp2_with fail
      go_roundw
      case rel => exact ⟨M - y.left, ⟨nx y.st, perN y.fr, y.fr⟩, by go_num, by omega, P3.out, GS.out.symm, K3.out⟩
      case measure => simp [intOf]; omega
    · have gl := Nz.go_lt (x := y) (N := M) (by omega)
      rw [HG.out] at gl
      have j1 : (M : Int) < (y.left : Int) := by omega
      have GL := Lib.hid gl
      clear gl
      by_cases h0 : M = 0
      · subst h0
        go_wp2_with fail
        first | go_end0 | refine bodyPost_ret (results_none rfl _ _ _) rfl ?_
        exact ⟨rfl, by rw [GL.out]; exact HY.out, HK.out⟩
      · have j0 : (0 : Int) < (M : Int) := by omega
        have lok : (⟨y.st, y.left - M, y.fr⟩ : Nz).ok := ⟨⟨a0, a1⟩, ⟨by dsimp only; omega, by dsimp only; omega⟩, q0, q1⟩
        have i1 : ((y.left - M : Nat) : Int) = (y.left : Int) - (M : Int) := by omega
        obtain ⟨p1, p2⟩ := HY.out.put (k := 1) (v := .int .i64 ((y.left - M : Nat) : Int)) (x' := ⟨y.st, y.left - M, y.fr⟩) rfl lok
        rw [i1] at p1 p2
        have P1 := Lib.hid p1
        have P2 := Lib.hid (HK.out.trans p2 (by simp))
        clear p1 p2 i1 lok
        go_wp2_with fail
        first | go_end0 | refine bodyPost_ret (results_none rfl _ _ _) rfl ?_
        exact ⟨rfl, by rw [GL.out]; exact P1.out, P2.out⟩
theorem rnnew_any (fr : Int) (w : World) (h0 : 0 ≤ fr) (h1 : fr ≤ 255) : Calls Try.prog 21 #[.int .u8 fr] w (RnNewR (Nz.new fr) w) := by
  go_enter Try.func21, Try.ntmps21
  go_wp2_with (go_at_call 19; refine (rperiod_any fr _ h0 h1).mono ?_; rintro e w' ⟨rfl, rfl⟩)
  go_ret
  exact ⟨rfl, ⟨Blk.new w _ _, Nz.new_ok h0 h1⟩, (Below.refl _ _).alloc (Nat.le_refl _) _⟩
theorem rncopy_any (h : RNZ w r x) :
    Calls Try.prog 24 #[.pointer (some ⟨r, 0, none⟩)] w (RnNewR x w) := by
  obtain ⟨c0, c1, c2⟩ := h.cells
  have hx := Lib.hid h.2
  clear h
  go_enter Try.func24, Try.ntmps24
  go_wp2
  first | go_region | skip
  go_wp2
  go_ret
  exact ⟨rfl, ⟨Blk.new _ _ _, hx.out⟩, ((Below.refl _ _).drew).alloc (Nat.le_refl _) _⟩
end
end Go.Proofs.Ytcnjekballnncaa
