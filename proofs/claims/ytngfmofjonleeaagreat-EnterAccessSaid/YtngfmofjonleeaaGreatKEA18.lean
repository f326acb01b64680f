/-
  Texts of these proofs, one behind the other: Tim2, Tim3, Feed3, Feed9, Feed5, Tim4.
-/
import Derived.Test.YtngfmofjonleeaaGreatKEA06
import Derived.Test.YtngfmofjonleeaaGreatKEA02
import Derived.Deep.QuietTactic
import Derived.BigQuiet
import Derived.IntWalk
import Derived.Deep.LoopGhost
import Derived.RegionTactic
import Derived.StillTailTactics
import Derived.BigRegion
import Derived.LoopN
namespace Go.Proofs.YtngfmofjonleeaaGreat
open Go.RowKit
set_option linter.unusedVariables false
set_option linter.unusedSimpArgs false
set_option maxRecDepth 100000
/-- What a call on a timer leaves. -/
def TmR (v : Value) (g : Nat) (T : TypeId) (cs : Array Value) (o : Nat) (s : Tm) (w : World) (e : Ending) (w' : World) : Prop := e = .returned v ∧ TM w' g T cs o s ∧ Kp [g] w w'
section
variable {w : World} {g : Nat} {T : TypeId} {cs : Array Value} {o : Nat} {s : Tm}
theorem TM.put {x : Value} {k : Nat} {s' : Tm} (h : TM w g T cs o s) (e : (tmPut cs o s).setIfInBounds k x = tmPut cs o s') (hs : s'.ok) : TM (w.setCell ⟨g, k, none⟩ x) g T cs o s' ∧ Kp [g] w (w.setCell ⟨g, k, none⟩ x) := by
  refine ⟨⟨?_, h.2.1, hs⟩, (Kp.refl _ _).setCell (.inl (by simp)) _⟩
  rw [← e]
  exact h.1.set_ k x
def Tm.turn (s : Tm) (b : Bool) : Tm := if b = true then if s.on = true then s else ⟨0, s.r, s.r, true⟩ else ⟨s.gone, s.c, s.r, false⟩
theorem tturn_any (h : TM w g T cs o s) (b : Bool) :
    Calls Tryz.prog 142 #[.pointer (some ⟨g, o, none⟩), .bool b] w (TmR (.tuple #[]) g T cs o (s.turn b) w) := by
  have hz := h.2.1
  obtain ⟨k0, k1, k2⟩ := h.2.2
  obtain ⟨c0, c1, c2, c3⟩ := h.cells
  have f0 := h.1.frozen o
  have f1 := h.1.frozen (o + 1)
  have f3 := h.1.frozen (o + 3)
  obtain ⟨gone, c, r, on⟩ := s
  dsimp only at c0 c1 c2 c3 k0 k1 k2
  have H := Lib.hid h
  have HZ := Lib.hid hz
  clear h hz
  cases b with
  | false =>
    go_enter Tryz.func142, Tryz.ntmps142
    go_wp2
    first | go_end0 | refine bodyPost_ret (results_none rfl _ _ _) rfl ?_
    obtain ⟨q1, q2⟩ := H.out.put (tmPut_on HZ.out false) ⟨k0, k1, k2⟩
    exact ⟨rfl, q1, q2⟩
  | true =>
    cases on with
    | true =>
      go_enter Tryz.func142, Tryz.ntmps142
      go_wp2
      first | go_end0 | refine bodyPost_ret (results_none rfl _ _ _) rfl ?_
      obtain ⟨q1, q2⟩ := H.out.put (tmPut_on HZ.out true) ⟨k0, k1, k2⟩
      exact ⟨rfl, q1, q2⟩
    | false =>
      go_enter Tryz.func142, Tryz.ntmps142
      go_wp2
      first | go_end0 | refine bodyPost_ret (results_none rfl _ _ _) rfl ?_
      obtain ⟨p1, p2⟩ := H.out.put (tmPut_c HZ.out r) ⟨k0, k2, k2⟩
      obtain ⟨q1, q2⟩ := p1.put (tmPut_gone HZ.out 0) ⟨by dsimp only; omega, k2, k2⟩
      obtain ⟨r1, r2⟩ := q1.put (tmPut_on HZ.out true) ⟨by dsimp only; omega, k2, k2⟩
      exact ⟨rfl, r1, (p2.trans q2 (by simp)).trans r2 (by simp)⟩
theorem tm_wr (s : Tm) (b : Int) : s.wr 1 b = s.turn (decide (b % 2 = 1)) := by
  unfold Tm.wr Tm.turn
  rw [if_neg (by omega), if_pos rfl]
  by_cases h : b % 2 = 1
  · simp [h]
  · simp [h]
theorem twrite_any (h : TM w g T cs o s) (reg b : Int) (b0 : 0 ≤ b) (b1 : b ≤ 255) :
    Calls Tryz.prog 115 #[.pointer (some ⟨g, o, none⟩), .int .i64 reg, .int .u8 b] w (TmR (.tuple #[]) g T cs o (s.wr reg b) w) := by
  have hz := h.2.1
  have hk := h.2.2
  have f2 := h.1.frozen (o + 2)
  have H := Lib.hid h
  have HZ := Lib.hid hz
  have HK := Lib.hid hk
  clear h hz hk
  by_cases h0 : reg = 0
  · subst h0
    have e : s.wr 0 b = ⟨s.gone, s.c, (b % 128).toNat, s.on⟩ := by unfold Tm.wr; rw [if_pos rfl]
    rw [e]
    have i1 : ((b % 128).toNat : Int) = b % 128 := by omega
    have c2 := H.out.cells.2.2.1
    obtain ⟨p1, p2⟩ := H.out.put (tmPut_r HZ.out (b % 128).toNat) (s' := ⟨s.gone, s.c, (b % 128).toNat, s.on⟩) ⟨HK.out.1, HK.out.2.1, by dsimp only; omega⟩
    rw [i1] at p1 p2
    have P1 := Lib.hid p1
    have P2 := Lib.hid p2
    clear e i1 p1 p2
    go_enter Tryz.func115, Tryz.ntmps115
    go_wp2
    first | go_end0 | refine bodyPost_ret (results_none rfl _ _ _) rfl ?_
    exact ⟨rfl, P1.out, P2.out⟩
  · by_cases h1 : reg = 1
    · subst h1
      rw [tm_wr, ← bit0_eq b0 b1]
      go_enter Tryz.func115, Tryz.ntmps115
      go_wp2_with fail
      refine (bit_any _ _ _).mono ?_
      rintro e w' ⟨rfl, rfl⟩
      go_wp2_with fail
      refine (tturn_any H.out _).mono ?_
      rintro e w' ⟨rfl, q1, q2⟩
      go_wp2
      first | go_end0 | refine bodyPost_ret (results_none rfl _ _ _) rfl ?_
      exact ⟨rfl, q1, q2⟩
    · have e : s.wr reg b = s := by unfold Tm.wr; rw [if_neg h0, if_neg h1]
      rw [e]
      have n0 : (reg == 0) = false := by simpa using h0
      have n1 : (reg == 1) = false := by simpa using h1
      clear e
      go_enter Tryz.func115, Tryz.ntmps115
      go_wp2
      first | go_end0 | refine bodyPost_ret (results_none rfl _ _ _) rfl ?_
      exact ⟨rfl, H.out, Kp.refl _ _⟩
theorem ttick_any (h : TM w g T cs o s) :
    Calls Tryz.prog 156 #[.pointer (some ⟨g, o, none⟩)] w (TmR (.bool (decide (s.c = 0))) g T cs o ⟨s.gone, tkS s.r s.c, s.r, s.on⟩ w) := by
  have hz := h.2.1
  obtain ⟨k0, k1, k2⟩ := h.2.2
  obtain ⟨c0, c1, c2, c3⟩ := h.cells
  have f1 := h.1.frozen (o + 1)
  have H := Lib.hid h
  have HZ := Lib.hid hz
  clear h hz
  by_cases h0 : s.c = 0
  · have e : tkS s.r s.c = s.r := by unfold tkS; rw [if_pos h0]
    rw [e, decide_eq_true h0]
    obtain ⟨p1, p2⟩ := H.out.put (tmPut_c HZ.out s.r) ⟨k0, k2, k2⟩
    have P1 := Lib.hid p1
    have P2 := Lib.hid p2
    rw [h0] at c1
    clear e p1 p2 h0 k0 k1 k2 c0 c3
    go_enter Tryz.func156, Tryz.ntmps156
    go_wp2
    go_ret
    exact ⟨rfl, P1.out, P2.out⟩
  · have e : tkS s.r s.c = s.c - 1 := by unfold tkS; rw [if_neg h0]
    rw [e, decide_eq_false h0]
    obtain ⟨p1, p2⟩ := H.out.put (tmPut_c HZ.out (s.c - 1)) ⟨k0, by dsimp only; omega, k2⟩
    have i1 : ((s.c - 1 : Nat) : Int) = (s.c : Int) - 1 := by omega
    rw [i1] at p1 p2
    have P1 := Lib.hid p1
    have P2 := Lib.hid p2
    have j0 : (0 : Int) < (s.c : Int) := by omega
    clear e p1 p2 i1 k0 k2 c0 c3
    go_enter Tryz.func156, Tryz.ntmps156
    go_wp2
    go_ret
    exact ⟨rfl, P1.out, P2.out⟩
end
end Go.Proofs.YtngfmofjonleeaaGreat
namespace Go.Proofs.YtngfmofjonleeaaGreat
open Go.RowKit
set_option linter.unusedVariables false
set_option linter.unusedSimpArgs false
set_option maxRecDepth 100000
theorem kp_new {L : List Nat} {a w w' w2 : World} {b : Nat} (h : Kp L a w) (hw : Kp [] w w') (k : Kp [b] w' w2) (hb : w.heap.size ≤ b) : Kp L a w2 :=
  (h.trans hw (by simp)).trans k fun y hy => .inr (by
    have h1 : y = b := by simpa using hy
    have h2 := h.size
    omega)
section
variable {w : World} {g : Nat} {T : TypeId} {cs : Array Value} {o : Nat} {s : Tm}
theorem tpass_any (h : TM w g T cs o s) (n : Nat) (hn : n ≤ 9223372036854775807) :
    Calls Tryz.prog 146 #[.pointer (some ⟨g, o, none⟩), .int .i64 n] w (TmR (.int .i64 ((s.gone + n) / 3072 : Nat)) g T cs o ⟨(s.gone + n) % 3072, s.c, s.r, s.on⟩ w) := by
  have hz := h.2.1
  obtain ⟨k0, k1, k2⟩ := h.2.2
  obtain ⟨c0, c1, c2, c3⟩ := h.cells
  have f0 := h.1.frozen o
  have H := Lib.hid h
  have HZ := Lib.hid hz
  clear h hz c1 c2 c3
  obtain ⟨p1, p2⟩ := H.out.put (tmPut_gone HZ.out ((s.gone + n) % 3072)) ⟨Nat.mod_lt _ (by omega), k1, k2⟩
  have i1 : (((s.gone + n) % 3072 : Nat) : Int) = ((s.gone : Int) + (n : Int)) % 3072 := by omega
  have i2 : (((s.gone + n) / 3072 : Nat) : Int) = (n : Int) / 3072 + ((s.gone : Int) + (n : Int) % 3072) / 3072 := by omega
  rw [i1] at p1 p2
  rw [i2]
  have P1 := Lib.hid p1
  have P2 := Lib.hid p2
  clear p1 p2 i1 i2
  go_enter Tryz.func146, Tryz.ntmps146
  go_wp2
  go_ret
  exact ⟨rfl, P1.out, P2.out⟩
theorem tkC_one (r k c : Nat) : tkC r (k + 1) c = tkS r (tkC r k c) := by rw [tkC_add]; rfl
theorem tkO_one (r k c : Nat) : tkO r (k + 1) c = tkO r k c + if tkC r k c = 0 then 1 else 0 := by rw [tkO_add]; rfl
set_option maxHeartbeats 1000000 in
theorem ttimes_any (h : TM w g T cs o s) (n : Nat) (hn : n ≤ 9223372036854775807) :
    Calls Tryz.prog 155 #[.int .i64 n, .func (.func 156) #[.pointer (some ⟨g, o, none⟩)] #[]] w (TmR (.int .i64 (tkO s.r n s.c)) g T cs o ⟨s.gone, tkC s.r n s.c, s.r, s.on⟩ w) := by
  have H := Lib.hid h
  clear h
  go_enter Tryz.func155, Tryz.ntmps155
  go_wp2_with fail
  go_loopw [5, 7] (fun y i wr => ∃ k : Nat, k ≤ n ∧ i = .int .i64 k ∧ y = .int .i64 (tkO s.r k s.c) ∧ TM wr g T cs o ⟨s.gone, tkC s.r k s.c, s.r, s.on⟩ ∧ Kp [g] w wr) (fun _ i _ => n - (intOf i).toNat)
  case atStart => exact ⟨0, by omega, rfl, rfl, H.out, Kp.refl _ _⟩
  case round =>
    obtain ⟨k, hk, rfl, rfl, hT, hK⟩ := hrel
    have HT := Lib.hid hT
    have HK := Lib.hid hK
    clear hT hK
    by_cases hlt : k < n
    · have o1 := tkO_one s.r k s.c
      have c1 := tkC_one s.r k s.c
      have ol := tkO_le s.r k s.c
      generalize hy : tkO s.r k s.c = y at *
      generalize hc : tkC s.r k s.c = c at *
      have HY := Lib.hid hy
      have HC := Lib.hid hc
      have O1 := Lib.hid o1
      have C1 := Lib.hid c1
      have ij : (k : Int) < n := by omega
      clear hy hc o1 c1
      go_wp2_with fail
      refine (ttick_any HT.out).mono ?_
      rintro e w1 ⟨rfl, q1, q2⟩
      dsimp only at q1
      have Q1 := Lib.hid q1
      have Q2 := Lib.hid (HK.out.trans q2 (by simp))
      clear q1 q2
      by_cases h0 : c = 0
      · have d0 : decide (c = 0) = true := decide_eq_true h0
        dsimp only
        rw [d0]
        clear d0
        go_wp2_with fail
        go_roundw
        case rel => exact ⟨k + 1, by omega, by go_num, by rw [O1.out, if_pos h0]; go_num, by rw [C1.out]; exact Q1.out, Q2.out⟩
        case measure => simp [intOf]; omega
      · have d0 : decide (c = 0) = false := decide_eq_false h0
        dsimp only
        rw [d0]
        clear d0
        go_wp2_with fail
        go_roundw
        case rel => exact ⟨k + 1, by omega, by go_num, by rw [O1.out, if_neg h0]; rfl, by rw [C1.out]; exact Q1.out, Q2.out⟩
        case measure => simp [intOf]; omega
    · obtain rfl : k = n := by omega
      go_wp2
      go_ret
      exact ⟨rfl, HT.out, HK.out⟩
theorem tmC_new (a : Int) (b c : Int) (d : Bool) (s : Tm) (ha : a = s.gone) (hb : b = s.c) (hc : c = s.r) (hd : d = s.on) (hk : s.ok) (w : World) :
    TM (w.alloc (.cells #[.int .i64 a, .int .u8 b, .int .u8 c, .bool d] 68)) w.heap.size 68 (Array.replicate 4 .nilFunc) 0 s := by
  subst ha hb hc hd
  exact ⟨Blk.new w _ _, by decide, hk⟩
theorem TM.put4 (h : TM w g T cs o s) (s' : Tm) (hs : s'.ok) :
    TM ((((w.setCell ⟨g, o, none⟩ (.int .i64 s'.gone)).setCell ⟨g, o + 1, none⟩ (.int .u8 s'.c)).setCell ⟨g, o + 2, none⟩ (.int .u8 s'.r)).setCell ⟨g, o + 3, none⟩ (.bool s'.on)) g T cs o s' ∧
    Kp [g] w ((((w.setCell ⟨g, o, none⟩ (.int .i64 s'.gone)).setCell ⟨g, o + 1, none⟩ (.int .u8 s'.c)).setCell ⟨g, o + 2, none⟩ (.int .u8 s'.r)).setCell ⟨g, o + 3, none⟩ (.bool s'.on)) := by
  have hz := h.2.1
  obtain ⟨a1, a2, a3⟩ := hs
  obtain ⟨k0, k1, k2⟩ := h.2.2
  obtain ⟨p1, p2⟩ := h.put (tmPut_gone hz s'.gone) ⟨a1, k1, k2⟩
  obtain ⟨q1, q2⟩ := p1.put (tmPut_c hz s'.c) ⟨a1, a2, k2⟩
  obtain ⟨r1, r2⟩ := q1.put (tmPut_r hz s'.r) ⟨a1, a2, a3⟩
  obtain ⟨t1, t2⟩ := r1.put (tmPut_on hz s'.on) ⟨a1, a2, a3⟩
  exact ⟨t1, ((p2.trans q2 (by simp)).trans r2 (by simp)).trans t2 (by simp)⟩
set_option maxHeartbeats 2000000 in
theorem tticks_any (h : TM w g T cs o s) (n : Nat) (hn : n ≤ 9223372036854775807) :
    Calls Tryz.prog 145 #[.pointer (some ⟨g, o, none⟩), .int .i64 n] w (TmR (.int .i64 (tkO s.r n s.c)) g T cs o ⟨s.gone, tkC s.r n s.c, s.r, s.on⟩ w) := by
  obtain ⟨k0, k1, k2⟩ := h.2.2
  have H := Lib.hid h
  clear h
  obtain ⟨N, hN⟩ : ∃ N, tkO s.r n s.c = N := ⟨_, rfl⟩
  obtain ⟨C, hC⟩ : ∃ C, tkC s.r n s.c = C := ⟨_, rfl⟩
  have hNn : N ≤ n := by rw [← hN]; exact tkO_le _ _ _
  rw [hN, hC]
  have HN := Lib.hid hN
  have HC := Lib.hid hC
  clear hN hC
  go_enter Tryz.func145, Tryz.ntmps145
  go_wp2_with fail
  go_loopw [1, 5] (fun x y wr => ∃ m c v : Nat, x = .int .i64 m ∧ m ≤ n ∧ y = .int .i64 v ∧ v + tkO s.r m c = N ∧ tkC s.r m c = C ∧ c ≤ 127 ∧ TM wr g T cs o ⟨s.gone, c, s.r, s.on⟩ ∧ Kp [g] w wr) (fun x _ _ => (intOf x).toNat)
  case atStart => exact ⟨n, s.c, 0, rfl, Nat.le_refl _, rfl, by rw [Nat.zero_add]; exact HN.out, HC.out, k1, H.out, Kp.refl _ _⟩
  case round =>
    obtain ⟨m, c, v, rfl, hm, rfl, hv, hCm, hc, hT, hK⟩ := hrel
    have hz := hT.2.1
    obtain ⟨c0, c1, c2, c3⟩ := hT.cells
    have f0 := hT.1.frozen o
    have f1 := hT.1.frozen (o + 1)
    have f2 := hT.1.frozen (o + 2)
    have f3 := hT.1.frozen (o + 3)
    dsimp only at c0 c1 c2 c3
    have HT := Lib.hid hT
    have HK := Lib.hid hK
    have HV := Lib.hid hv
    have HM := Lib.hid hCm
    have hvN : v ≤ N := by omega
    clear hT hK hv hCm H
    by_cases hpos : 0 < m
    · have jpos : (0 : Int) < m := by omega
      obtain ⟨R, hR⟩ : ∃ R, min m (s.r + 1) = R := ⟨_, rfl⟩
      have hRm : R ≤ m := by omega
      have hR0 : 0 < R := by omega
      have hRr : R ≤ s.r + 1 := by omega
      have eR : (if (s.r : Int) + 1 < m then (s.r : Int) + 1 else m) = R := by split <;> omega
      clear hR
      go_wp2_with fail
      have HA := tmC_new (s.gone : Int) (c : Int) (s.r : Int) s.on ⟨s.gone, c, s.r, s.on⟩ rfl rfl rfl rfl ⟨k0, hc, k2⟩ wr
      refine (ttimes_any HA R (by omega)).mono ?_
      dsimp only
      have hx : tkO s.r R c ≤ R := tkO_le _ _ _
      have hd : tkC s.r R c ≤ 127 := tkC_le k2 hc
      have add1 := tkC_add s.r R (m - R) c
      have add2 := tkO_add s.r R (m - R) c
      have loop := fun h => tk_loop (r := s.r) (m := R) (c := c) h (m / R)
      rw [show R + (m - R) = m by omega] at add1 add2
      generalize ex : tkO s.r R c = x at *
      generalize ed : tkC s.r R c = d at *
      have A1 := Lib.hid add1
      have A2 := Lib.hid add2
      have LP := Lib.hid loop
      rintro e w1 ⟨rfl, q1, q2⟩
      have hgl : g < wr.heap.size := HT.out.lt
      have kA : Kp [] wr (wr.alloc (.cells #[.int .i64 (s.gone : Int), .int .u8 (c : Int), .int .u8 (s.r : Int), .bool s.on] 68)) := (Kp.refl _ _).alloc _
      have T1 : TM w1 g T cs o ⟨s.gone, c, s.r, s.on⟩ := (HT.out.kp kA (by simp)).kp q2 (by simp; omega)
      have K1 : Kp [g] w w1 := kp_new HK.out kA q2 (Nat.le_refl _)
      obtain ⟨a0, a1, a2, a3⟩ := T1.cells
      obtain ⟨d0, d1, d2, d3⟩ := q1.cells
      have g0 := T1.1.frozen o
      have g1 := T1.1.frozen (o + 1)
      have g2 := T1.1.frozen (o + 2)
      have g3 := T1.1.frozen (o + 3)
      dsimp only [Nat.zero_add] at a0 a1 a2 a3 d0 d1 d2 d3
      have HT1 := Lib.hid T1
      have HK1 := Lib.hid K1
      have HQ1 := Lib.hid q1
      clear add1 add2 loop ex ed HA q1 q2 kA T1 K1 c0 c1 c2 c3 f0 f1 f2 f3 eR HT HK
      by_cases hdc : d = c
      · obtain ⟨l1, l2⟩ := LP.out hdc
        obtain ⟨q, hq⟩ : ∃ q, m / R = q := ⟨_, rfl⟩
        have hqR : q * R ≤ m := by rw [← hq]; exact Nat.div_mul_le_self m R
        have hq0 : 1 ≤ q := by rw [← hq]; exact (Nat.one_le_div_iff hR0).2 hRm
        have hqx : q * x ≤ q * R := Nat.mul_le_mul_left q hx
        have hR1 : R ≤ q * R := Nat.le_mul_of_pos_left R hq0
        have hqm : q ≤ m := by rw [← hq]; exact Nat.div_le_self m R
        rw [hq] at l1 l2
        have e1 : (m : Int) / (R : Int) = (q : Int) := by rw [← hq]; rfl
        have e2 : Int.tdiv (m : Int) (R : Int) = (q : Int) := by rw [Int.tdiv_eq_ediv_of_nonneg (by omega)]; exact e1
        have e3 : (q : Int) * (x : Int) = ((q * x : Nat) : Int) := by simp
        have e4 : (q : Int) * (R : Int) = ((q * R : Nat) : Int) := by simp
        generalize q * x = px at *
        generalize q * R = y at *
        have a5 := tkC_add s.r y (m - y) c
        have a6 := tkO_add s.r y (m - y) c
        rw [show y + (m - y) = m by omega, l1] at a5 a6
        rw [l2] at a6
        have A5 := Lib.hid a5
        have A6 := Lib.hid a6
        have hsum : v + px ≤ N := by have := HV.out; omega
        have jR : (0 : Int) < (R : Int) := by omega
        have jR1 : ¬ (R : Int) = 0 := by omega
        have jR2 : ((R : Int) == 0) = false := by simpa using jR1
        have tc : ((d : Int) == (c : Int)) = true := by rw [hdc]; simp
        have hdc' := Lib.hid hdc
        clear hq l1 l2 a5 a6 hdc LP A1 A2
        go_wp2_with fail
        go_quiet (fail)
        go_wp2_with fail
        obtain ⟨r1, r2⟩ := TM.put4 (w := w1.drewN nq) (T := T) (cs := cs) (o := o) (by exact HT1.out) ⟨s.gone, d, s.r, s.on⟩ ⟨k0, hd, k2⟩
        refine ⟨⟨m - y, d, v + px, by congr 1 <;> omega, by omega, by congr 1 <;> omega, ?_, ?_, hd, r1, (HK1.out.drewN nq).trans r2 (by simp)⟩, ?_⟩
        · have := A6.out; have := HV.out; rw [hdc'.out]; omega
        · have := A5.out; rw [hdc'.out, ← this]; exact HM.out
        · simp only [intOf]; omega
      · have nb : ((d : Int) == (c : Int)) = false := by
          have : ¬ (d : Int) = c := by omega
          simpa using this
        have hsum : v + x ≤ N := by have := HV.out; have := A2.out; omega
        clear LP
        go_wp2_with fail
        go_quiet (fail)
        go_wp2_with fail
        obtain ⟨r1, r2⟩ := TM.put4 (w := w1.drewN nq) (T := T) (cs := cs) (o := o) (by exact HT1.out) ⟨s.gone, d, s.r, s.on⟩ ⟨k0, hd, k2⟩
        refine ⟨⟨m - R, d, v + x, by congr 1 <;> omega, by omega, by congr 1 <;> omega, ?_, ?_, hd, r1, (HK1.out.drewN nq).trans r2 (by simp)⟩, ?_⟩
        · have := A2.out; have := HV.out; omega
        · have := A1.out; rw [← this]; exact HM.out
        · simp only [intOf]; omega
    · obtain rfl : m = 0 := by omega
      have e1 : v = N := by have := HV.out; simpa [tkO] using this
      have e2 : c = C := by have := HM.out; simpa [tkC] using this
      subst e1 e2
      go_wp2
      go_ret
      exact ⟨rfl, HT.out, HK.out⟩
theorem tgo_any (h : TM w g T cs o s) (n : Int) (hn : n ≤ 9223372036854775807) :
    Calls Tryz.prog 120 #[.pointer (some ⟨g, o, none⟩), .int .i64 n] w (TmR (.int .i64 (s.overN n.toNat)) g T cs o (s.goN n.toNat) w) := by
  have H := Lib.hid h
  clear h
  by_cases hon : s.on = true
  · obtain ⟨m, hm⟩ : ∃ m : Nat, n.toNat = m := ⟨_, rfl⟩
    have e1 : s.overN n.toNat = tkO s.r ((s.gone + m) / 3072) s.c := by unfold Tm.overN; rw [if_pos hon, hm]
    have e2 : s.goN n.toNat = ⟨(s.gone + m) % 3072, tkC s.r ((s.gone + m) / 3072) s.c, s.r, s.on⟩ := by unfold Tm.goN; rw [if_pos hon, hm, hon]
    rw [e1, e2]
    have eM : (if n < 0 then 0 else n) = (m : Int) := by split <;> omega
    have hk := H.out.2.2.1
    have hmn : m ≤ 9223372036854775807 := by omega
    have HO := Lib.hid hon
    clear e1 e2 hm hon
    go_enter Tryz.func120, Tryz.ntmps120
    go_wp2_with fail
    refine (ton_any H.out).mono ?_
    rw [HO.out]
    rintro e w' ⟨rfl, rfl⟩
    go_wp2_with fail
    refine (tpass_any H.out m hmn).mono ?_
    rintro e w1 ⟨rfl, q1, q2⟩
    have Q1 := Lib.hid q1
    clear q1
    go_wp2_with fail
    refine (tticks_any Q1.out ((s.gone + m) / 3072) (by omega)).mono ?_
    rintro e w2 ⟨rfl, r1, r2⟩
    dsimp only at r1
    have R1 := Lib.hid r1
    clear r1
    go_wp2_with fail
    go_ret
    exact ⟨rfl, R1.out, q2.trans r2 (by simp)⟩
  · have e1 : s.overN n.toNat = 0 := by unfold Tm.overN; rw [if_neg hon]
    have e2 : s.goN n.toNat = s := by unfold Tm.goN; rw [if_neg hon]
    rw [e1, e2]
    have hf : s.on = false := by simpa using hon
    have HO := Lib.hid hf
    clear e1 e2 hf hon
    go_enter Tryz.func120, Tryz.ntmps120
    go_wp2_with fail
    refine (ton_any H.out).mono ?_
    rw [HO.out]
    rintro e w' ⟨rfl, rfl⟩
    go_wp2_with fail
    go_ret
    exact ⟨rfl, H.out, Kp.refl _ _⟩
end
end Go.Proofs.YtngfmofjonleeaaGreat
namespace Go.Proofs.YtngfmofjonleeaaGreat
open Go.RowKit
set_option linter.unusedVariables false
theorem run_eql_func (c : Array Value) (W : World) : (binOp .eql 82 (.func (.func 95) #[] c) .nilFunc).run Tryz.prog W = .ok (.bool false) W := by
  kernel_rfl
/-- The byte that comes so far behind the next one. -/
def peekI (n : Nat) (z : Nat → Int) (k : Int) : Int := if 0 ≤ k ∧ k < n then z k.toNat else 255
theorem peekI_no (n : Nat) (z : Nat → Int) (k : Int) (h : ¬ (0 ≤ k ∧ k < n)) : peekI n z k = 255 := by unfold peekI; rw [if_neg h]
theorem peekI_yes (n : Nat) (z : Nat → Int) (k : Nat) (h : k < n) : peekI n z k = z k := by unfold peekI; rw [if_pos (by omega)]; rfl
end Go.Proofs.YtngfmofjonleeaaGreat
namespace Go.Proofs.YtngfmofjonleeaaGreat
open Go.RowKit
set_option linter.unusedVariables false
set_option linter.unusedSimpArgs false
set_option maxRecDepth 100000
/-- The function that gives, over what is left in block cb. -/
def giveV (cb : Nat) : Value := .func (.func 95) #[] #[.pointer (some ⟨cb, 0, none⟩)]
/-- The cells of a feed, laid at place o. -/
def fdPut (cs : Array Value) (o cb : Nat) (t : Int) : Array Value := (cs.setIfInBounds o (giveV cb)).setIfInBounds (o + 1) (.int .i64 t)
section
variable {cs : Array Value} {o cb : Nat} {t : Int}
theorem fdPut_size : (fdPut cs o cb t).size = cs.size := by simp [fdPut]
theorem fdPut_at (i : Nat) (h : o + 2 ≤ cs.size) : (fdPut cs o cb t)[i]? = if i = o then some (giveV cb) else if i = o + 1 then some (.int .i64 t) else cs[i]? := by
  unfold fdPut
  simp only [Array.getElem?_setIfInBounds, Array.size_setIfInBounds]
  by_cases e0 : i = o
  · subst e0; simp; omega
  by_cases e1 : i = o + 1
  · subst e1; simp; omega
  rw [if_neg (by omega), if_neg (by omega), if_neg e0, if_neg e1]
theorem fdPut_t (h : o + 2 ≤ cs.size) (u : Int) : (fdPut cs o cb t).setIfInBounds (o + 1) (.int .i64 u) = fdPut cs o cb u := by
  apply Array.ext_getElem?
  intro i
  rw [Array.getElem?_setIfInBounds, fdPut_at i h, fdPut_at i h, fdPut_size]
  by_cases e : o + 1 = i
  · subst e; simp; omega
  · have e' : ¬ i = o + 1 := fun x => e x.symm
    rw [if_neg e]
    simp only [if_neg e']
theorem fdPut_far (h : o + 2 ≤ cs.size) (k : Nat) (hk : k ≠ o ∧ k ≠ o + 1) (v : Value) : (fdPut cs o cb t).setIfInBounds k v = fdPut (cs.setIfInBounds k v) o cb t := by
  apply Array.ext_getElem?
  intro i
  rw [Array.getElem?_setIfInBounds, fdPut_at i h, fdPut_at i (by rw [Array.size_setIfInBounds]; exact h), Array.getElem?_setIfInBounds, fdPut_size]
  by_cases e : k = i
  · subst e
    rw [if_pos rfl, if_neg hk.1, if_neg hk.2, if_pos rfl]
  · rw [if_neg e, if_neg e]
end
/-- At place o of block g, of a type T that is neither bytes nor a slice of them, whose other cells are those of cs, there is a feed. -/
def FP (w : World) (g : Nat) (T : TypeId) (cs : Array Value) (o cb n : Nat) (z : Nat → Int) (t : Int) : Prop :=
  Blk w g T (fdPut cs o cb t) ∧ (o + 2 ≤ cs.size ∧ 5 ≠ T ∧ T ≠ 34) ∧ ∃ v, Blk w cb 34 #[v] ∧ SliceB w cb v n z
section
variable {w w' : World} {g : Nat} {T : TypeId} {cs : Array Value} {o cb n : Nat} {z : Nat → Int} {t : Int}
theorem FP.lt (h : FP w g T cs o cb n z t) : g < w.heap.size := h.1.lt
theorem FP.ltc (h : FP w g T cs o cb n z t) : cb < w.heap.size := by obtain ⟨_, _, v, hc, _⟩ := h; exact hc.lt
theorem FP.ne (h : FP w g T cs o cb n z t) : g ≠ cb := by obtain ⟨hg, ⟨_, _, h3⟩, v, hc, _⟩ := h; exact hg.ne_ hc h3
theorem FP.cells (h : FP w g T cs o cb n z t) : w.cell? ⟨g, o, none⟩ = some (giveV cb) ∧ w.cell? ⟨g, o + 1, none⟩ = some (.int .i64 t) := by
  obtain ⟨hg, ⟨hs, _⟩, _⟩ := h
  refine ⟨?_, ?_⟩ <;> rw [hg.cell, fdPut_at _ hs] <;> simp
theorem FP.kp {L : List Nat} (h : FP w g T cs o cb n z t) (k : Kp L w w') (hL : ∀ x ∈ L, ∃ t cs, Blk w x t cs ∧ 5 ≠ t) (h1 : g ∉ L) (h2 : cb ∉ L) : FP w' g T cs o cb n z t := by
  obtain ⟨hg, hs, v, hc, hb⟩ := h
  exact ⟨hg.kp k h1, hs, v, hc.kp k h2, hb.kp k hL⟩
theorem FP.keep (h : FP w g T cs o cb n z t) (k : Below w.heap.size w w') : FP w' g T cs o cb n z t :=
  h.kp (L := []) (Kp.of_below k) (fun x hx => by cases hx) (by simp) (by simp)
/-- What else lies in its block is changed. -/
theorem FP.put (h : FP w g T cs o cb n z t) (k : Nat) (hk : k ≠ o ∧ k ≠ o + 1) (v : Value) : FP (w.setCell ⟨g, k, none⟩ v) g T (cs.setIfInBounds k v) o cb n z t ∧ Kp [g] w (w.setCell ⟨g, k, none⟩ v) := by
  have hne := h.ne
  obtain ⟨hg, ⟨hs, h2, h3⟩, u, hc, hb⟩ := h
  have kp : Kp [g] w (w.setCell ⟨g, k, none⟩ v) := (Kp.refl _ _).setCell (.inl (by simp)) _
  have hn : ∀ x ∈ [g], ∃ t cs, Blk w x t cs ∧ 5 ≠ t := fun x hx => by
    obtain rfl : x = g := by simpa using hx
    exact ⟨_, _, hg, h2⟩
  refine ⟨⟨?_, ⟨by rw [Array.size_setIfInBounds]; exact hs, h2, h3⟩, u, hc.kp kp (by simpa using hne.symm), hb.kp kp hn⟩, kp⟩
  rw [← fdPut_far hs k hk]
  exact hg.set_ k v
theorem FP.count (h : FP w g T cs o cb n z t) (u : Int) : FP (w.setCell ⟨g, o + 1, none⟩ (.int .i64 u)) g T cs o cb n z u ∧ Kp [g] w (w.setCell ⟨g, o + 1, none⟩ (.int .i64 u)) := by
  have hne := h.ne
  obtain ⟨hg, ⟨hs, h2, h3⟩, v, hc, hb⟩ := h
  have kp : Kp [g] w (w.setCell ⟨g, o + 1, none⟩ (.int .i64 u)) := (Kp.refl _ _).setCell (.inl (by simp)) _
  have hn : ∀ x ∈ [g], ∃ t cs, Blk w x t cs ∧ 5 ≠ t := fun x hx => by
    obtain rfl : x = g := by simpa using hx
    exact ⟨_, _, hg, h2⟩
  refine ⟨⟨?_, ⟨hs, h2, h3⟩, v, hc.kp kp (by simpa using hne.symm), hb.kp kp hn⟩, kp⟩
  rw [← fdPut_t hs]
  exact hg.set_ (o + 1) _
theorem FP.congr {n' : Nat} {z' : Nat → Int} {t' : Int} (h : FP w g T cs o cb n z t) (hn : n' = n) (hz : ∀ i, i < n' → z' i = z i) (ht : t' = t) : FP w g T cs o cb n' z' t' := by
  subst hn ht
  obtain ⟨a, b, v, c, A, cap, c1, c2, c3, c4, c5⟩ := h
  exact ⟨a, b, v, c, A, cap, c1, c2, c3, fun i hi => by rw [hz i hi]; exact c4 i hi, c5⟩
theorem peekI_byte {v : Value} (h : SliceB w cb v n z) (k : Int) : 0 ≤ peekI n z k ∧ peekI n z k ≤ 255 := by
  unfold peekI
  split
  · rename_i hk
    obtain ⟨_, _, _, _, _, R, _⟩ := h
    obtain ⟨_, _, _, _, hw⟩ := R k.toNat (by omega)
    exact bounds_u8 hw
  · omega
theorem FP.byte (h : FP w g T cs o cb n z t) (k : Int) : 0 ≤ peekI n z k ∧ peekI n z k ≤ 255 := by
  obtain ⟨_, _, v, _, hs⟩ := h
  exact peekI_byte hs k
end
section
variable {w : World} {g : Nat} {T : TypeId} {cs : Array Value} {o cb n : Nat} {z : Nat → Int} {t : Int}
def FPTookR (n k g : Nat) (T : TypeId) (cs : Array Value) (o cb : Nat) (z : Nat → Int) (t : Int) (w : World) (e : Ending) (w' : World) : Prop :=
  ∃ A cap, e = .returned (.slice A (n - k) cap) ∧ SliceB w' cb (.slice A (n - k) cap) (n - k) (fun i => z (k + i)) ∧ FP w' g T cs o cb (n - k) (fun i => z (k + i)) t ∧ Kp [cb] w w'
set_option maxHeartbeats 1000000 in
theorem fptake_any {k : Nat} (h : FP w g T cs o cb n z t) (hk : k ≤ 1) :
    Calls Tryz.prog 149 #[.pointer (some ⟨g, o, none⟩), .int .i64 k] w (FPTookR n k g T cs o cb z t w) := by
  have c0 := h.cells.1
  have hne := h.ne
  unfold giveV at c0
  obtain ⟨hg, hT, v, hc, hs⟩ := h
  have hfn := fun c W => run_eql_func c W
  have HG := Lib.hid hg
  have HC := Lib.hid hc
  have HS := Lib.hid hs
  have HT := Lib.hid hT
  have HN := Lib.hid hne
  clear hg hc hs hT hne
  go_enter Tryz.func149, Tryz.ntmps149
  go_wp2_with fail
  refine (gives_any HC.out HS.out hk).mono ?_
  rintro e w1 ⟨A, cap, rfl, h1, h2, h3⟩
  have H1 := Lib.hid h1
  have H2 := Lib.hid h2
  clear h1 h2
  go_wp2_with fail
  go_ret
  exact ⟨A, cap, rfl, H1.out, ⟨HG.out.kp h3 (by simpa using HN.out), HT.out, _, H2.out, H1.out⟩, h3⟩
theorem fptake0_any (h : FP w g T cs o cb n z t) :
    Calls Tryz.prog 149 #[.pointer (some ⟨g, o, none⟩), .int .i64 0] w fun e w' => ∃ A cap, e = .returned (.slice A n cap) ∧ SliceB w' cb (.slice A n cap) n z ∧ FP w' g T cs o cb n z t ∧ Kp [cb] w w' := by
  refine (fptake_any (k := 0) h (by omega)).mono ?_
  rintro e w' ⟨A, cap, h1, h2, h3, h4⟩
  have e : (fun i => z (0 + i)) = z := by funext i; rw [Nat.zero_add]
  rw [e] at h2 h3
  exact ⟨A, cap, h1, h2, h3, h4⟩
def FPR (v : Value) (g : Nat) (T : TypeId) (cs : Array Value) (o cb n : Nat) (z : Nat → Int) (t : Int) (L : List Nat) (w : World) (e : Ending) (w' : World) : Prop := e = .returned v ∧ FP w' g T cs o cb n z t ∧ Kp L w w'
set_option maxHeartbeats 1000000 in
theorem fppeek_any {k : Int} (h : FP w g T cs o cb n z t) :
    Calls Tryz.prog 148 #[.pointer (some ⟨g, o, none⟩), .int .i64 k] w (FPR (.int .u8 (peekI n z k)) g T cs o cb n z t [cb] w) := by
  have H := Lib.hid h
  clear h
  by_cases h0 : k < 0
  · rw [peekI_no n z k (by omega)]
    go_enter Tryz.func148, Tryz.ntmps148
    go_wp2_with fail
    refine (fptake0_any H.out).mono ?_
    rintro e w1 ⟨A, cap, rfl, h1, h2, h3⟩
    have hl : n ≤ 9223372036854775807 := by obtain ⟨_, _, q, a, b, _⟩ := h1; unfold maxLen at b; omega
    have H1 := Lib.hid h1
    have HL := Lib.hid hl
    clear h1 hl
    go_wp2
    go_ret
    exact ⟨rfl, h2, h3⟩
  by_cases h1 : k < n
  · obtain ⟨j, rfl⟩ := Int.eq_ofNat_of_zero_le (by omega : 0 ≤ k)
    have hj : j < n := by omega
    rw [peekI_yes n z j hj]
    go_enter Tryz.func148, Tryz.ntmps148
    go_wp2_with fail
    refine (fptake0_any H.out).mono ?_
    rintro e w1 ⟨A, cap, rfl, q1, q2, q3⟩
    obtain ⟨_, _, q, a, b, R, _⟩ := q1
    cases q
    obtain ⟨ad, rfl, _, hc, _⟩ := R j hj
    have HQ := Lib.hid q2
    have HK := Lib.hid q3
    have HR := Lib.hid R
    clear q2 q3 R
    unfold maxLen at b
    go_wp2
    go_ret
    exact ⟨rfl, HQ.out, HK.out⟩
  · rw [peekI_no n z k (by omega)]
    go_enter Tryz.func148, Tryz.ntmps148
    go_wp2_with fail
    refine (fptake0_any H.out).mono ?_
    rintro e w1 ⟨A, cap, rfl, h1, h2, h3⟩
    have H1 := Lib.hid h1
    clear h1
    go_wp2
    go_ret
    exact ⟨rfl, h2, h3⟩
set_option maxHeartbeats 1000000 in
theorem fpnext_any (h : FP w g T cs o cb n z t) (h0 : 0 ≤ t) (h1 : t ≤ 1000000000) :
    Calls Tryz.prog 130 #[.pointer (some ⟨g, o, none⟩)] w (FPR (.int .u8 (peekI n z 0)) g T cs o cb (n - 1) (fun i => z (1 + i)) (t + 1) [g, cb] w) := by
  have H := Lib.hid h
  clear h
  obtain ⟨b, hb⟩ : ∃ b, peekI n z 0 = b := ⟨_, rfl⟩
  rw [hb]
  have HB := Lib.hid hb
  clear hb
  go_enter Tryz.func130, Tryz.ntmps130
  go_wp2_with fail
  refine (fppeek_any (k := 0) H.out).mono ?_
  rintro e w1 ⟨rfl, q1, q2⟩
  rw [HB.out]
  have Q1 := Lib.hid q1
  clear q1
  go_wp2_with fail
  refine (fptake_any (k := 1) Q1.out (by omega)).mono ?_
  rintro e w2 ⟨A, cap, rfl, _, r1, r2⟩
  have c1 := r1.cells.2
  have f1 := r1.1.frozen (o + 1)
  have R1 := Lib.hid r1
  clear r1
  go_wp2
  go_ret
  obtain ⟨s1, s2⟩ := R1.out.count (t + 1)
  refine ⟨rfl, s1, ((q2.mono ?_).trans (r2.mono (M := [g, cb]) ?_) ?_).trans (s2.mono (M := [g, cb]) ?_) ?_⟩ <;> simp
end
end Go.Proofs.YtngfmofjonleeaaGreat
namespace Go.Proofs.YtngfmofjonleeaaGreat
open Go.RowKit
set_option linter.unusedVariables false
set_option maxRecDepth 100000
def longB (a b c : Nat) : Bool := decide (10000 < a ∨ 10000 < b ∨ 10000 < c)
set_option maxHeartbeats 1000000 in
theorem anyLong_any {w : World} {g : Nat} (A B C : Option Addr) (a b c ca cb cc : Nat) (ha : a ≤ 9223372036854775807) (hb : b ≤ 9223372036854775807) (hc : c ≤ 9223372036854775807)
    (h : Blk w g 34 #[.slice A a ca, .slice B b cb, .slice C c cc]) :
    Calls Tryz.prog 57 #[.slice (some ⟨g, 0, none⟩) 3 3] w fun e w' => e = .returned (.bool (longB a b c)) ∧ w = w' := by
  have c0 : w.cell? ⟨g, 0, none⟩ = some (.slice A a ca) := h.cell 0
  have c1 : w.cell? ⟨g, 1, none⟩ = some (.slice B b cb) := h.cell 1
  have c2 : w.cell? ⟨g, 2, none⟩ = some (.slice C c cc) := h.cell 2
  clear h
  by_cases h1 : 10000 < a
  · have e : longB a b c = true := by unfold longB; simp [h1]
    rw [e]
    have h1' : (10000 : Int) < a := by omega
    go_enter Tryz.func57, Tryz.ntmps57
    go_wp2
    refine wp_loop_rounds 1 ?_
    rw [rounds_succ]
    go_wp2
    go_ret
    exact ⟨rfl, rfl⟩
  by_cases h2 : 10000 < b
  · have e : longB a b c = true := by unfold longB; simp [h2]
    rw [e]
    have h1' : ¬ (10000 : Int) < a := by omega
    have h2' : (10000 : Int) < b := by omega
    go_enter Tryz.func57, Tryz.ntmps57
    go_wp2
    refine wp_loop_rounds 2 ?_
    rw [rounds_succ]
    go_wp2
    rw [rounds_succ]
    go_wp2
    go_ret
    exact ⟨rfl, rfl⟩
  by_cases h3 : 10000 < c
  · have e : longB a b c = true := by unfold longB; simp [h3]
    rw [e]
    have h1' : ¬ (10000 : Int) < a := by omega
    have h2' : ¬ (10000 : Int) < b := by omega
    have h3' : (10000 : Int) < c := by omega
    go_enter Tryz.func57, Tryz.ntmps57
    go_wp2
    refine wp_loop_rounds 3 ?_
    rw [rounds_succ]
    go_wp2
    rw [rounds_succ]
    go_wp2
    rw [rounds_succ]
    go_wp2
    go_ret
    exact ⟨rfl, rfl⟩
  · have e : longB a b c = false := by unfold longB; simp [h1, h2, h3]
    rw [e]
    have h1' : ¬ (10000 : Int) < a := by omega
    have h2' : ¬ (10000 : Int) < b := by omega
    have h3' : ¬ (10000 : Int) < c := by omega
    go_enter Tryz.func57, Tryz.ntmps57
    go_wp2
    refine wp_loop_rounds 4 ?_
    rw [rounds_succ]
    go_wp2
    rw [rounds_succ]
    go_wp2
    rw [rounds_succ]
    go_wp2
    rw [rounds_succ]
    go_wp2
    go_ret
    exact ⟨rfl, rfl⟩
set_option maxHeartbeats 1000000 in
theorem fcheck_any {w : World} (A B C : Option Addr) (a b c ca cb cc : Nat) (ha : a ≤ 9223372036854775807) (hb : b ≤ 9223372036854775807) (hc : c ≤ 9223372036854775807) :
    Calls Tryz.prog 19 #[.agg #[.slice A a ca, .slice B b cb, .slice C c cc]] w fun e w' => e = .returned (.int .i64 (if longB a b c then 2 else 0)) ∧ Below w.heap.size w w' := by
  obtain ⟨l, hl⟩ : ∃ l, longB a b c = l := ⟨_, rfl⟩
  rw [hl]
  have HL := Lib.hid hl
  clear hl
  go_enter Tryz.func19, Tryz.ntmps19
  go_wp2_with fail
  refine (anyLong_any A B C a b c ca cb cc ha hb hc (Blk.new_ (by simp))).mono ?_
  rintro e w1 ⟨rfl, rfl⟩
  rw [HL.out]
  cases l
  all_goals
    go_wp2
    go_ret
    exact ⟨rfl, ((Below.refl _ _).alloc (Nat.le_refl _) _).alloc (by simp) _⟩
end Go.Proofs.YtngfmofjonleeaaGreat
namespace Go.Proofs.YtngfmofjonleeaaGreat
open Go.RowKit
set_option linter.unusedVariables false
set_option linter.unusedSimpArgs false
set_option maxRecDepth 100000
def rtC (s : Tm) : Array Value := #[.int .u8 s.r, .int .u8 s.c, .bool s.on, .int .i64 (3072 - (s.gone : Int))]
/-- In block g there is the reference's timer. -/
def RTM (w : World) (g : Nat) (s : Tm) : Prop := Blk w g 153 (rtC s) ∧ s.ok
section
variable {w w' : World} {g : Nat} {s : Tm}
theorem RTM.kp {L : List Nat} (h : RTM w g s) (k : Kp L w w') (hL : g ∉ L) : RTM w' g s := ⟨h.1.kp k hL, h.2⟩
theorem RTM.keep {n : Nat} (h : RTM w g s) (k : Below n w w') (hn : g < n) : RTM w' g s := ⟨h.1.below k hn, h.2⟩
theorem RTM.lt (h : RTM w g s) : g < w.heap.size := h.1.lt
theorem RTM.cells (h : RTM w g s) : w.cell? ⟨g, 0, none⟩ = some (.int .u8 s.r) ∧ w.cell? ⟨g, 1, none⟩ = some (.int .u8 s.c) ∧ w.cell? ⟨g, 2, none⟩ = some (.bool s.on) ∧ w.cell? ⟨g, 3, none⟩ = some (.int .i64 (3072 - (s.gone : Int))) :=
  ⟨h.1.cell 0, h.1.cell 1, h.1.cell 2, h.1.cell 3⟩
theorem RTM.put {x : Value} {k : Nat} {s' : Tm} (h : RTM w g s) (e : (rtC s).setIfInBounds k x = rtC s') (hs : s'.ok) : RTM (w.setCell ⟨g, k, none⟩ x) g s' ∧ Kp [g] w (w.setCell ⟨g, k, none⟩ x) := by
  refine ⟨⟨?_, hs⟩, (Kp.refl _ _).setCell (.inl (by simp)) _⟩
  rw [← e]
  exact h.1.set_ k x
end
/-- What a call on the reference's timer leaves. -/
def RtR (v : Value) (g : Nat) (s : Tm) (w : World) (e : Ending) (w' : World) : Prop := e = .returned v ∧ RTM w' g s ∧ Kp [g] w w'
def NewRTR (w : World) (e : Ending) (w' : World) : Prop :=
  e = .returned (.pointer (some ⟨w.heap.size, 0, none⟩)) ∧ RTM w' w.heap.size Tm.new ∧ Below w.heap.size w w'
theorem rtnew_any (w : World) : Calls Tryz.prog 27 #[] w (NewRTR w) := by
  go_enter Tryz.func27, Tryz.ntmps27
  go_wp2
  go_ret
  exact ⟨rfl, ⟨Blk.new w _ _, Tm.new_ok⟩, (Below.refl _ _).alloc (Nat.le_refl _) _⟩
section
variable {w : World} {g : Nat} {s : Tm}
theorem rttick_any (h : RTM w g s) :
    Calls Tryz.prog 138 #[.pointer (some ⟨g, 0, none⟩)] w (RtR (.bool (decide (s.c = 0))) g ⟨s.gone, tkS s.r s.c, s.r, s.on⟩ w) := by
  obtain ⟨k0, k1, k2⟩ := h.2
  obtain ⟨c0, c1, c2, c3⟩ := h.cells
  have f1 := h.1.frozen 1
  have H := Lib.hid h
  clear h c2 c3
  by_cases h0 : s.c = 0
  · have e : tkS s.r s.c = s.r := by unfold tkS; rw [if_pos h0]
    rw [e, decide_eq_true h0]
    obtain ⟨p1, p2⟩ := H.out.put (k := 1) (x := .int .u8 (s.r : Int)) (s' := ⟨s.gone, s.r, s.r, s.on⟩) rfl ⟨k0, k2, k2⟩
    have P1 := Lib.hid p1
    have P2 := Lib.hid p2
    rw [h0] at c1
    clear e p1 p2 h0 k0 k1 k2
    go_enter Tryz.func138, Tryz.ntmps138
    go_wp2
    go_ret
    exact ⟨rfl, P1.out, P2.out⟩
  · have e : tkS s.r s.c = s.c - 1 := by unfold tkS; rw [if_neg h0]
    rw [e, decide_eq_false h0]
    obtain ⟨p1, p2⟩ := H.out.put (k := 1) (x := .int .u8 ((s.c - 1 : Nat) : Int)) (s' := ⟨s.gone, s.c - 1, s.r, s.on⟩) rfl ⟨k0, by dsimp only; omega, k2⟩
    have i1 : ((s.c - 1 : Nat) : Int) = (s.c : Int) - 1 := by omega
    rw [i1] at p1 p2
    have P1 := Lib.hid p1
    have P2 := Lib.hid p2
    have j0 : ((s.c : Int) == 0) = false := by
      have : ¬ (s.c : Int) = 0 := by omega
      simpa using this
    have j1 : (0 : Int) < (s.c : Int) := by omega
    clear e p1 p2 i1 k0 k2
    go_enter Tryz.func138, Tryz.ntmps138
    go_wp2
    go_ret
    exact ⟨rfl, P1.out, P2.out⟩
theorem rtwrite_any (h : RTM w g s) (reg b : Int) (b0 : 0 ≤ b) (b1 : b ≤ 255) :
    Calls Tryz.prog 73 #[.pointer (some ⟨g, 0, none⟩), .int .i64 reg, .int .u8 b] w (RtR (.tuple #[]) g (s.wr reg b) w) := by
  obtain ⟨k0, k1, k2⟩ := h.2
  obtain ⟨c0, c1, c2, c3⟩ := h.cells
  have f0 := h.1.frozen 0
  have f1 := h.1.frozen 1
  have f2 := h.1.frozen 2
  have f3 := h.1.frozen 3
  have H := Lib.hid h
  clear h
  by_cases h0 : reg = 0
  · subst h0
    have e : s.wr 0 b = ⟨s.gone, s.c, (b % 128).toNat, s.on⟩ := by unfold Tm.wr; rw [if_pos rfl]
    rw [e]
    have i1 : ((b % 128).toNat : Int) = b % 128 := by omega
    obtain ⟨p1, p2⟩ := H.out.put (k := 0) (x := .int .u8 ((b % 128).toNat : Int)) (s' := ⟨s.gone, s.c, (b % 128).toNat, s.on⟩) rfl ⟨k0, k1, by dsimp only; omega⟩
    rw [i1] at p1 p2
    have P1 := Lib.hid p1
    have P2 := Lib.hid p2
    clear e i1 p1 p2
    go_enter Tryz.func73, Tryz.ntmps73
    go_wp2
    first | go_end0 | refine bodyPost_ret (results_none rfl _ _ _) rfl ?_
    exact ⟨rfl, P1.out, P2.out⟩
  · have n0 : (reg == 0) = false := by simpa using h0
    by_cases h1 : reg = 1
    · subst h1
      rw [tm_wr]
      obtain ⟨gone, c, r, on⟩ := s
      dsimp only at *
      by_cases hb : b % 2 = 1
      · rw [decide_eq_true hb]
        cases on with
        | true =>
          go_enter Tryz.func73, Tryz.ntmps73
          go_wp2
          first | go_end0 | refine bodyPost_ret (results_none rfl _ _ _) rfl ?_
          obtain ⟨p1, p2⟩ := H.out.put (k := 2) (x := .bool true) (s' := ⟨gone, c, r, true⟩) rfl ⟨k0, k1, k2⟩
          exact ⟨rfl, p1, p2⟩
        | false =>
          go_enter Tryz.func73, Tryz.ntmps73
          go_wp2
          first | go_end0 | refine bodyPost_ret (results_none rfl _ _ _) rfl ?_
          obtain ⟨p1, p2⟩ := H.out.put (k := 1) (x := .int .u8 (r : Int)) (s' := ⟨gone, r, r, false⟩) rfl ⟨k0, k2, k2⟩
          obtain ⟨q1, q2⟩ := p1.put (k := 3) (x := .int .i64 3072) (s' := ⟨0, r, r, false⟩) rfl ⟨by dsimp only; omega, k2, k2⟩
          obtain ⟨r1, r2⟩ := q1.put (k := 2) (x := .bool true) (s' := ⟨0, r, r, true⟩) rfl ⟨by dsimp only; omega, k2, k2⟩
          exact ⟨rfl, r1, (p2.trans q2 (by simp)).trans r2 (by simp)⟩
      · rw [decide_eq_false hb]
        have hb' : (b % 2 == 1) = false := by simpa using hb
        go_enter Tryz.func73, Tryz.ntmps73
        go_wp2
        first | go_end0 | refine bodyPost_ret (results_none rfl _ _ _) rfl ?_
        obtain ⟨p1, p2⟩ := H.out.put (k := 2) (x := .bool false) (s' := ⟨gone, c, r, false⟩) rfl ⟨k0, k1, k2⟩
        exact ⟨rfl, p1, p2⟩
    · have e : s.wr reg b = s := by unfold Tm.wr; rw [if_neg h0, if_neg h1]
      rw [e]
      have n1 : (reg == 1) = false := by simpa using h1
      clear e
      go_enter Tryz.func73, Tryz.ntmps73
      go_wp2
      first | go_end0 | refine bodyPost_ret (results_none rfl _ _ _) rfl ?_
      exact ⟨rfl, H.out, Kp.refl _ _⟩
set_option maxHeartbeats 1000000 in
theorem rtgo_any (h : RTM w g s) (n : Int) (hn : n ≤ 9223372036854775807) :
    Calls Tryz.prog 107 #[.pointer (some ⟨g, 0, none⟩), .int .i64 n] w (RtR (.int .i64 (s.overN n.toNat)) g (s.goN n.toNat) w) := by
  obtain ⟨k0, k1, k2⟩ := h.2
  obtain ⟨c0, c1, c2, c3⟩ := h.cells
  have H := Lib.hid h
  clear h
  cases hon : s.on with
  | false =>
    have e1 : s.overN n.toNat = 0 := by unfold Tm.overN; rw [hon]; rfl
    have e2 : s.goN n.toNat = s := by unfold Tm.goN; rw [hon]; rfl
    rw [e1, e2]
    rw [hon] at c2
    clear e1 e2 hon
    go_enter Tryz.func107, Tryz.ntmps107
    go_wp2
    go_ret
    exact ⟨rfl, H.out, Kp.refl _ _⟩
  | true =>
    rcases (by omega : n < 0 ∨ 0 ≤ n) with hneg | hpos
    · have e0 : n.toNat = 0 := by omega
      have e1 : s.overN n.toNat = 0 := by unfold Tm.overN; rw [hon, e0, if_pos rfl, Nat.add_zero, Nat.div_eq_of_lt k0]; rfl
      have e2 : s.goN n.toNat = s := by
        unfold Tm.goN
        rw [hon, e0, if_pos rfl, Nat.add_zero, Nat.div_eq_of_lt k0, Nat.mod_eq_of_lt k0]
        obtain ⟨gone, c, r, on⟩ := s
        dsimp only at hon
        subst hon
        rfl
      rw [e1, e2]
      rw [hon] at c2
      have j1 : ¬ (3072 - (s.gone : Int) ≤ n) := by omega
      clear e0 e1 e2 hon
      go_enter Tryz.func107, Tryz.ntmps107
      go_wp2_with fail
      go_loopw [1, 5] (fun x y wr => x = .int .i64 n ∧ y = .int .i64 0 ∧ wr = w) (fun _ _ _ => 0)
      case atStart => exact ⟨rfl, rfl, rfl⟩
      case round =>
        obtain ⟨rfl, rfl, rfl⟩ := hrel
        go_wp2
        go_ret
        exact ⟨rfl, H.out, Kp.refl _ _⟩
    · obtain ⟨m0, rfl⟩ := Int.eq_ofNat_of_zero_le hpos
      have e1 : s.overN (m0 : Int).toNat = tkO s.r ((s.gone + m0) / 3072) s.c := by unfold Tm.overN; rw [hon]; rfl
      have e2 : s.goN (m0 : Int).toNat = ⟨(s.gone + m0) % 3072, tkC s.r ((s.gone + m0) / 3072) s.c, s.r, true⟩ := by unfold Tm.goN; rw [hon]; rfl
      rw [e1, e2]
      have hN : tkO s.r ((s.gone + m0) / 3072) s.c ≤ m0 := Nat.le_trans (tkO_le _ _ _) (by omega)
      obtain ⟨N, eN⟩ : ∃ N, tkO s.r ((s.gone + m0) / 3072) s.c = N := ⟨_, rfl⟩
      obtain ⟨C, eC⟩ : ∃ C, tkC s.r ((s.gone + m0) / 3072) s.c = C := ⟨_, rfl⟩
      obtain ⟨G, eG⟩ : ∃ G, (s.gone + m0) % 3072 = G := ⟨_, rfl⟩
      rw [eN, eC, eG]
      rw [eN] at hN
      rw [hon] at c2
      have EN := Lib.hid eN
      have EC := Lib.hid eC
      have EG := Lib.hid eG
      have H1 : Hid (RTM w g ⟨s.gone, s.c, s.r, true⟩) := Lib.hid (by
        have := H.out
        obtain ⟨gone, c, r, on⟩ := s
        dsimp only at hon
        subst hon
        exact this)
      clear e1 e2 eN eC eG hon H hpos
      go_enter Tryz.func107, Tryz.ntmps107
      go_wp2_with fail
      go_loopw [1, 5] (fun x y wr => ∃ m a c v : Nat, x = .int .i64 m ∧ m ≤ m0 ∧ y = .int .i64 v ∧ a < 3072 ∧ c ≤ 127 ∧ v + tkO s.r ((a + m) / 3072) c = N ∧ tkC s.r ((a + m) / 3072) c = C ∧ (a + m) % 3072 = G ∧ RTM wr g ⟨a, c, s.r, true⟩ ∧ Kp [g] w wr) (fun x _ _ => (intOf x).toNat)
      case atStart => exact ⟨m0, s.gone, s.c, 0, rfl, Nat.le_refl _, rfl, k0, k1, by rw [Nat.zero_add]; exact EN.out, EC.out, EG.out, H1.out, Kp.refl _ _⟩
      case round =>
        obtain ⟨m, a, c, v, rfl, hm, rfl, ha, hc, hv, hC, hG, hT, hK⟩ := hrel
        obtain ⟨b0, b1, b2, b3⟩ := hT.cells
        have f3 := hT.1.frozen 3
        dsimp only at b0 b1 b2 b3
        have hvN : v ≤ N := by omega
        clear c0 c1 c2 c3
        by_cases hge : 3072 ≤ a + m
        · have j1 : 3072 - (a : Int) ≤ m := by omega
          have d1 : (a + m) / 3072 = (0 + (a + m - 3072)) / 3072 + 1 := by omega
          have d2 : (a + m) % 3072 = (0 + (a + m - 3072)) % 3072 := by omega
          rw [d1] at hv hC
          rw [d2] at hG
          simp only [tkC, tkO] at hv hC
          have HV := Lib.hid hv
          have HC := Lib.hid hC
          have HG := Lib.hid hG
          obtain ⟨p1, p2⟩ := hT.put (k := 3) (x := .int .i64 3072) (s' := ⟨0, c, s.r, true⟩) rfl ⟨by dsimp only; omega, hc, k2⟩
          have P1 := Lib.hid p1
          have K1 := Lib.hid (hK.trans p2 (by simp))
          clear d1 d2 hv hC hG hT hK p1 p2 H1
          go_wp2_with fail
          refine (rttick_any P1.out).mono ?_
          rintro e w1 ⟨rfl, q1, q2⟩
          dsimp only at q1
          have Q1 := Lib.hid q1
          have Q2 := Lib.hid (K1.out.trans q2 (by simp))
          have hc2 : tkS s.r c ≤ 127 := tkS_le k2 hc
          clear q1 q2
          by_cases h0 : c = 0
          · have h1 : v + 1 ≤ N := by have := HV.out; rw [if_pos h0] at this; omega
            dsimp only
            rw [decide_eq_true h0]
            go_wp2_with fail
            go_roundw
            case rel =>
              refine ⟨a + m - 3072, 0, tkS s.r c, v + 1, by congr 1; omega, by omega, by go_num, by omega, hc2, ?_, HC.out, HG.out, Q1.out, Q2.out⟩
              have := HV.out
              rw [if_pos h0] at this
              omega
            case measure => simp [intOf]; omega
          · dsimp only
            rw [decide_eq_false h0]
            go_wp2_with fail
            go_roundw
            case rel =>
              refine ⟨a + m - 3072, 0, tkS s.r c, v, by congr 1; omega, by omega, rfl, by omega, hc2, ?_, HC.out, HG.out, Q1.out, Q2.out⟩
              have := HV.out
              rw [if_neg h0] at this
              omega
            case measure => simp [intOf]; omega
        · have j1 : ¬ (3072 - (a : Int) ≤ m) := by omega
          rw [Nat.div_eq_of_lt (by omega)] at hv hC
          rw [Nat.mod_eq_of_lt (by omega)] at hG
          simp only [tkC, tkO, Nat.add_zero] at hv hC
          subst hv hC hG
          by_cases hm0 : m = 0
          · subst hm0
            have HT := Lib.hid hT
            have HK := Lib.hid hK
            clear hT hK
            go_wp2
            go_ret
            exact ⟨rfl, HT.out, HK.out⟩
          · have j2 : (0 : Int) < m := by omega
            obtain ⟨p1, p2⟩ := hT.put (k := 3) (x := .int .i64 (3072 - ((a + m : Nat) : Int))) (s' := ⟨a + m, c, s.r, true⟩) rfl ⟨by dsimp only; omega, hc, k2⟩
            rw [show (3072 : Int) - ((a + m : Nat) : Int) = 3072 - (a : Int) - (m : Int) by omega] at p1 p2
            have P1 := Lib.hid p1
            have K1 := Lib.hid (hK.trans p2 (by simp))
            clear hT hK p1 p2
            go_wp2
            go_ret
            exact ⟨rfl, P1.out, K1.out⟩
end
end Go.Proofs.YtngfmofjonleeaaGreat
