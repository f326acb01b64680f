/-
  The reference's timer: New, Write, tick, Go, Copy.
-/
import Derived.Test.YtbdmpgpdnnjmpaaTim3
namespace Go.Proofs.Ytbdmpgpdnnjmpaa
open Go.RowKit
set_option linter.unusedVariables false
set_option linter.unusedSimpArgs false
set_option maxRecDepth 100000
def rtC (s : Tm) : Array Value := #[.int .u8 s.r, .int .u8 s.c, .bool s.on, .int .i64 (3072 - (s.gone : Int))]
/-- In block g there is the reference's timer. -/
def RTM (w : World) (g : Nat) (s : Tm) : Prop := Blk w g 32 (rtC s) ∧ s.ok
section
variable {w w' : World} {g : Nat} {s : Tm}
theorem RTM.kp {L : List Nat} (h : RTM w g s) (k : Kp L w w') (hL : g ∉ L) : RTM w' g s := ⟨h.1.kp k hL, h.2⟩
theorem RTM.keep {n : Nat} (h : RTM w g s) (k : Below n w w') (hn : g < n) : RTM w' g s := ⟨h.1.below k hn, h.2⟩
theorem RTM.lt (h : RTM w g s) : g < w.heap.size := h.1.lt
theorem RTM.cells (h : RTM w g s) : w.cell? ⟨g, 0, none⟩ = some (.int .u8 s.r) ∧ w.cell? ⟨g, 1, none⟩ = some (.int .u8 s.c) ∧ w.cell? ⟨g, 2, none⟩ = some (.bool s.on) ∧ w.cell? ⟨g, 3, none⟩ = some (.int .i64 (3072 - (s.gone : Int))) :=
  ⟨h.1.cell 0, h.1.cell 1, h.1.cell 2, h.1.cell 3⟩
theorem RTM.put {x : Value} {k : Nat} {s' : Tm} (h : RTM w g s) (e : (rtC s).setIfInBounds k x = rtC s') (hs : s'.ok) : RTM (w.setCell ⟨g, k, none⟩ x) g s' ∧ Kp [g] w (w.setCell ⟨g, k, none⟩ x) := by
  refine ⟨⟨?_, hs⟩, (Kp.refl _ _).setCell (.inl (by simp)) _⟩
  rw [← e]
  exact h.1.set_ k x
end
/-- What a call on the reference's timer leaves. -/
def RtR (v : Value) (g : Nat) (s : Tm) (w : World) (e : Ending) (w' : World) : Prop := e = .returned v ∧ RTM w' g s ∧ Kp [g] w w'
def NewRTR (w : World) (e : Ending) (w' : World) : Prop :=
  e = .returned (.pointer (some ⟨w.heap.size, 0, none⟩)) ∧ RTM w' w.heap.size Tm.new ∧ Below w.heap.size w w'
theorem rtnew_any (w : World) : Calls Try.prog 13 #[] w (NewRTR w) := by
  go_enter Try.func13, Try.ntmps13
  go_wp2
  go_ret
  exact ⟨rfl, ⟨Blk.new w _ _, Tm.new_ok⟩, (Below.refl _ _).alloc (Nat.le_refl _) _⟩
section
variable {w : World} {g : Nat} {s : Tm}
theorem rttick_any (h : RTM w g s) :
    Calls Try.prog 49 #[.pointer (some ⟨g, 0, none⟩)] w (RtR (.bool (decide (s.c = 0))) g ⟨s.gone, tkS s.r s.c, s.r, s.on⟩ w) := by
  obtain ⟨k0, k1, k2⟩ := h.2
  obtain ⟨c0, c1, c2, c3⟩ := h.cells
  have f1 := h.1.frozen 1
  have H := Lib.hid h
  clear h c2 c3
  by_cases h0 : s.c = 0
  · have e : tkS s.r s.c = s.r := by unfold tkS; rw [if_pos h0]
    rw [e, decide_eq_true h0]
    obtain ⟨p1, p2⟩ := H.out.put (k := 1) (x := .int .u8 (s.r : Int)) (s' := ⟨s.gone, s.r, s.r, s.on⟩) rfl ⟨k0, k2, k2⟩
    have P1 := Lib.hid p1
    have P2 := Lib.hid p2
    rw [h0] at c1
    clear e p1 p2 h0 k0 k1 k2
    go_enter Try.func49, Try.ntmps49
    go_wp2
    go_ret
    exact ⟨rfl, P1.out, P2.out⟩
  · have e : tkS s.r s.c = s.c - 1 := by unfold tkS; rw [if_neg h0]
    rw [e, decide_eq_false h0]
    obtain ⟨p1, p2⟩ := H.out.put (k := 1) (x := .int .u8 ((s.c - 1 : Nat) : Int)) (s' := ⟨s.gone, s.c - 1, s.r, s.on⟩) rfl ⟨k0, by dsimp only; omega, k2⟩
    have i1 : ((s.c - 1 : Nat) : Int) = (s.c : Int) - 1 := by omega
    rw [i1] at p1 p2
    have P1 := Lib.hid p1
    have P2 := Lib.hid p2
    have j0 : ((s.c : Int) == 0) = false := by
      have : ¬ (s.c : Int) = 0 := by omega
      simpa using this
    have j1 : (0 : Int) < (s.c : Int) := by omega
    clear e p1 p2 i1 k0 k2
    go_enter Try.func49, Try.ntmps49
    go_wp2
    go_ret
    exact ⟨rfl, P1.out, P2.out⟩
theorem rtwrite_any (h : RTM w g s) (reg b : Int) (b0 : 0 ≤ b) (b1 : b ≤ 255) :
    Calls Try.prog 36 #[.pointer (some ⟨g, 0, none⟩), .int .i64 reg, .int .u8 b] w (RtR (.tuple #[]) g (s.wr reg b) w) := by
  obtain ⟨k0, k1, k2⟩ := h.2
  obtain ⟨c0, c1, c2, c3⟩ := h.cells
  have f0 := h.1.frozen 0
  have f1 := h.1.frozen 1
  have f2 := h.1.frozen 2
  have f3 := h.1.frozen 3
  have H := Lib.hid h
  clear h
  by_cases h0 : reg = 0
  · subst h0
    have e : s.wr 0 b = ⟨s.gone, s.c, (b % 128).toNat, s.on⟩ := by unfold Tm.wr; rw [if_pos rfl]
    rw [e]
    have i1 : ((b % 128).toNat : Int) = b % 128 := by omega
    obtain ⟨p1, p2⟩ := H.out.put (k := 0) (x := .int .u8 ((b % 128).toNat : Int)) (s' := ⟨s.gone, s.c, (b % 128).toNat, s.on⟩) rfl ⟨k0, k1, by dsimp only; omega⟩
    rw [i1] at p1 p2
    have P1 := Lib.hid p1
    have P2 := Lib.hid p2
    clear e i1 p1 p2
    go_enter Try.func36, Try.ntmps36
    go_wp2
    first | go_end0 | refine bodyPost_ret (results_none rfl _ _ _) rfl ?_
    exact ⟨rfl, P1.out, P2.out⟩
  · have n0 : (reg == 0) = false := by simpa using h0
    by_cases h1 : reg = 1
    · subst h1
      rw [tm_wr]
      obtain ⟨gone, c, r, on⟩ := s
      dsimp only at *
      by_cases hb : b % 2 = 1
      · rw [decide_eq_true hb]
        cases on with
        | true =>
          go_enter Try.func36, Try.ntmps36
          go_wp2
          first | go_end0 | refine bodyPost_ret (results_none rfl _ _ _) rfl ?_
          obtain ⟨p1, p2⟩ := H.out.put (k := 2) (x := .bool true) (s' := ⟨gone, c, r, true⟩) rfl ⟨k0, k1, k2⟩
          exact ⟨rfl, p1, p2⟩
        | false =>
          go_enter Try.func36, Try.ntmps36
          go_wp2
          first | go_end0 | refine bodyPost_ret (results_none rfl _ _ _) rfl ?_
          obtain ⟨p1, p2⟩ := H.out.put (k := 1) (x := .int .u8 (r : Int)) (s' := ⟨gone, r, r, false⟩) rfl ⟨k0, k2, k2⟩
          obtain ⟨q1, q2⟩ := p1.put (k := 3) (x := .int .i64 3072) (s' := ⟨0, r, r, false⟩) rfl ⟨by dsimp only; omega, k2, k2⟩
          obtain ⟨r1, r2⟩ := q1.put (k := 2) (x := .bool true) (s' := ⟨0, r, r, true⟩) rfl ⟨by dsimp only; omega, k2, k2⟩
          exact ⟨rfl, r1, (p2.trans q2 (by simp)).trans r2 (by simp)⟩
      · rw [decide_eq_false hb]
        have hb' : (b % 2 == 1) = false := by simpa using hb
        go_enter Try.func36, Try.ntmps36
        go_wp2
        first | go_end0 | refine bodyPost_ret (results_none rfl _ _ _) rfl ?_
        obtain ⟨p1, p2⟩ := H.out.put (k := 2) (x := .bool false) (s' := ⟨gone, c, r, false⟩) rfl ⟨k0, k1, k2⟩
        exact ⟨rfl, p1, p2⟩
    · have e : s.wr reg b = s := by unfold Tm.wr; rw [if_neg h0, if_neg h1]
      rw [e]
      have n1 : (reg == 1) = false := by simpa using h1
      clear e
      go_enter Try.func36, Try.ntmps36
      go_wp2
      first | go_end0 | refine bodyPost_ret (results_none rfl _ _ _) rfl ?_
      exact ⟨rfl, H.out, Kp.refl _ _⟩
set_option maxHeartbeats 1000000 in
theorem rtgo_any (h : RTM w g s) (n : Int) (hn : n ≤ 9223372036854775807) :
    Calls Try.prog 37 #[.pointer (some ⟨g, 0, none⟩), .int .i64 n] w (RtR (.int .i64 (s.overN n.toNat)) g (s.goN n.toNat) w) := by
  obtain ⟨k0, k1, k2⟩ := h.2
  obtain ⟨c0, c1, c2, c3⟩ := h.cells
  have H := Lib.hid h
  clear h
  cases hon : s.on with
  | false =>
    have e1 : s.overN n.toNat = 0 := by unfold Tm.overN; rw [hon]; rfl
    have e2 : s.goN n.toNat = s := by unfold Tm.goN; rw [hon]; rfl
    rw [e1, e2]
    rw [hon] at c2
    clear e1 e2 hon
    go_enter Try.func37, Try.ntmps37
    go_wp2
    go_ret
    exact ⟨rfl, H.out, Kp.refl _ _⟩
  | true =>
    rcases (by omega : n < 0 ∨ 0 ≤ n) with hneg | hpos
    · have e0 : n.toNat = 0 := by omega
      have e1 : s.overN n.toNat = 0 := by unfold Tm.overN; rw [hon, e0, if_pos rfl, Nat.add_zero, Nat.div_eq_of_lt k0]; rfl
      have e2 : s.goN n.toNat = s := by
        unfold Tm.goN
        rw [hon, e0, if_pos rfl, Nat.add_zero, Nat.div_eq_of_lt k0, Nat.mod_eq_of_lt k0]
        obtain ⟨gone, c, r, on⟩ := s
        dsimp only at hon
        subst hon
        rfl
      rw [e1, e2]
      rw [hon] at c2
      have j1 : ¬ (3072 - (s.gone : Int) ≤ n) := by omega
      clear e0 e1 e2 hon
      go_enter Try.func37, Try.ntmps37
      go_wp2_with fail
      go_loopw [1, 5] (fun x y wr => x = .int .i64 n ∧ y = .int .i64 0 ∧ wr = w) (fun _ _ _ => 0)
      case atStart => exact ⟨rfl, rfl, rfl⟩
      case round =>
        obtain ⟨rfl, rfl, rfl⟩ := hrel
        go_wp2
        go_ret
        exact ⟨rfl, H.out, Kp.refl _ _⟩
    · obtain ⟨m0, rfl⟩ := Int.eq_ofNat_of_zero_le hpos
      have e1 : s.overN (m0 : Int).toNat = tkO s.r ((s.gone + m0) / 3072) s.c := by unfold Tm.overN; rw [hon]; rfl
      have e2 : s.goN (m0 : Int).toNat = ⟨(s.gone + m0) % 3072, tkC s.r ((s.gone + m0) / 3072) s.c, s.r, true⟩ := by unfold Tm.goN; rw [hon]; rfl
      rw [e1, e2]
      have hN : tkO s.r ((s.gone + m0) / 3072) s.c ≤ m0 := Nat.le_trans (tkO_le _ _ _) (by omega)
      obtain ⟨N, eN⟩ : ∃ N, tkO s.r ((s.gone + m0) / 3072) s.c = N := ⟨_, rfl⟩
      obtain ⟨C, eC⟩ : ∃ C, tkC s.r ((s.gone + m0) / 3072) s.c = C := ⟨_, rfl⟩
      obtain ⟨G, eG⟩ : ∃ G, (s.gone + m0) % 3072 = G := ⟨_, rfl⟩
      rw [eN, eC, eG]
      rw [eN] at hN
      rw [hon] at c2
      have EN := Lib.hid eN
      have EC := Lib.hid eC
      have EG := Lib.hid eG
      have H1 : Hid (RTM w g ⟨s.gone, s.c, s.r, true⟩) := Lib.hid (by
        have := H.out
        obtain ⟨gone, c, r, on⟩ := s
        dsimp only at hon
        subst hon
        exact this)
      clear e1 e2 eN eC eG hon H hpos
      go_enter Try.func37, Try.ntmps37
      go_wp2_with fail
      go_loopw [1, 5] (fun x y wr => ∃ m a c v : Nat, x = .int .i64 m ∧ m ≤ m0 ∧ y = .int .i64 v ∧ a < 3072 ∧ c ≤ 127 ∧ v + tkO s.r ((a + m) / 3072) c = N ∧ tkC s.r ((a + m) / 3072) c = C ∧ (a + m) % 3072 = G ∧ RTM wr g ⟨a, c, s.r, true⟩ ∧ Kp [g] w wr) (fun x _ _ => (intOf x).toNat)
      case atStart => exact ⟨m0, s.gone, s.c, 0, rfl, Nat.le_refl _, rfl, k0, k1, by rw [Nat.zero_add]; exact EN.out, EC.out, EG.out, H1.out, Kp.refl _ _⟩
      case round =>
        obtain ⟨m, a, c, v, rfl, hm, rfl, ha, hc, hv, hC, hG, hT, hK⟩ := hrel
        obtain ⟨b0, b1, b2, b3⟩ := hT.cells
        have f3 := hT.1.frozen 3
        dsimp only at b0 b1 b2 b3
        have hvN : v ≤ N := by omega
        clear c0 c1 c2 c3
        by_cases hge : 3072 ≤ a + m
        · have j1 : 3072 - (a : Int) ≤ m := by omega
          have d1 : (a + m) / 3072 = (0 + (a + m - 3072)) / 3072 + 1 := by omega
          have d2 : (a + m) % 3072 = (0 + (a + m - 3072)) % 3072 := by omega
          rw [d1] at hv hC
          rw [d2] at hG
          simp only [tkC, tkO] at hv hC
          have HV := Lib.hid hv
          have HC := Lib.hid hC
          have HG := Lib.hid hG
          obtain ⟨p1, p2⟩ := hT.put (k := 3) (x := .int .i64 3072) (s' := ⟨0, c, s.r, true⟩) rfl ⟨by dsimp only; omega, hc, k2⟩
          have P1 := Lib.hid p1
          have K1 := Lib.hid (hK.trans p2 (by simp))
          clear d1 d2 hv hC hG hT hK p1 p2 H1
          go_wp2_with fail
          refine (rttick_any P1.out).mono ?_
          rintro e w1 ⟨rfl, q1, q2⟩
          dsimp only at q1
          have Q1 := Lib.hid q1
          have Q2 := Lib.hid (K1.out.trans q2 (by simp))
          have hc2 : tkS s.r c ≤ 127 := tkS_le k2 hc
          clear q1 q2
          by_cases h0 : c = 0
          · have h1 : v + 1 ≤ N := by have := HV.out; rw [if_pos h0] at this; omega
            dsimp only
            rw [decide_eq_true h0]
            go_wp2_with fail
            go_roundw
            case rel =>
              refine ⟨a + m - 3072, 0, tkS s.r c, v + 1, by congr 1; omega, by omega, by go_num, by omega, hc2, ?_, HC.out, HG.out, Q1.out, Q2.out⟩
              have := HV.out
              rw [if_pos h0] at this
              omega
            case measure => simp [intOf]; omega
          · dsimp only
            rw [decide_eq_false h0]
            go_wp2_with fail
            go_roundw
            case rel =>
              refine ⟨a + m - 3072, 0, tkS s.r c, v, by congr 1; omega, by omega, rfl, by omega, hc2, ?_, HC.out, HG.out, Q1.out, Q2.out⟩
              have := HV.out
              rw [if_neg h0] at this
              omega
            case measure => simp [intOf]; omega
        · have j1 : ¬ (3072 - (a : Int) ≤ m) := by omega
          rw [Nat.div_eq_of_lt (by omega)] at hv hC
          rw [Nat.mod_eq_of_lt (by omega)] at hG
          simp only [tkC, tkO, Nat.add_zero] at hv hC
          subst hv hC hG
          by_cases hm0 : m = 0
          · subst hm0
            have HT := Lib.hid hT
            have HK := Lib.hid hK
            clear hT hK
            go_wp2
            go_ret
            exact ⟨rfl, HT.out, HK.out⟩
          · have j2 : (0 : Int) < m := by omega
            obtain ⟨p1, p2⟩ := hT.put (k := 3) (x := .int .i64 (3072 - ((a + m : Nat) : Int))) (s' := ⟨a + m, c, s.r, true⟩) rfl ⟨by dsimp only; omega, hc, k2⟩
            rw [show (3072 : Int) - ((a + m : Nat) : Int) = 3072 - (a : Int) - (m : Int) by omega] at p1 p2
            have P1 := Lib.hid p1
            have K1 := Lib.hid (hK.trans p2 (by simp))
            clear hT hK p1 p2
            go_wp2
            go_ret
            exact ⟨rfl, P1.out, K1.out⟩
def RTCopyR (g : Nat) (s : Tm) (w : World) (e : Ending) (w' : World) : Prop :=
  e = .returned (.pointer (some ⟨w.heap.size, 0, none⟩)) ∧ RTM w' w.heap.size s ∧ Below w.heap.size w w'
set_option maxHeartbeats 1000000 in
theorem rtcopy_any (h : RTM w g s) :
    Calls Try.prog 16 #[.pointer (some ⟨g, 0, none⟩)] w (RTCopyR g s w) := by
  have hk := h.2
  obtain ⟨c0, c1, c2, c3⟩ := h.cells
  have HK := Lib.hid hk
  clear h hk
  go_enter Try.func16, Try.ntmps16
  go_wp2_with fail
  go_region
  all_goals
    go_wp2_with fail
    go_ret
    exact ⟨rfl, ⟨Blk.new w.drew _ _, HK.out⟩, (Below.refl _ _).drew.alloc (Nat.le_refl _) _⟩
end
end Go.Proofs.Ytbdmpgpdnnjmpaa
