/-
  Texts of these proofs, one behind the other: MB, Tim2, Tim3.
-/
import Derived.Test.YtleofglnlfpoeaaGreatKBP09
import Derived.Test.YtleofglnlfpoeaaGreatKBP14
import Derived.Deep.QuietTactic
import Derived.BigQuiet
import Derived.IntWalk
import Derived.Deep.LoopGhost
import Derived.RegionTactic
namespace Go.Proofs.YtleofglnlfpoeaaGreat
open Go.RowKit
set_option linter.unusedVariables false
set_option maxRecDepth 100000
theorem bit0_fin : ∀ b : Fin 256, bitB (b.val : Int) 0 = decide ((b.val : Int) % 2 = 1) := by decide +kernel
theorem bit1_fin : ∀ b : Fin 256, bitB (b.val : Int) 1 = decide ((b.val : Int) / 2 % 2 = 1) := by decide +kernel
theorem bit0_eq {b : Int} (h0 : 0 ≤ b) (h1 : b ≤ 255) : bitB b 0 = decide (b % 2 = 1) := by
  have := bit0_fin ⟨b.toNat, by omega⟩
  rwa [show ((⟨b.toNat, by omega⟩ : Fin 256).val : Int) = b by simp; omega] at this
theorem bit1_eq {b : Int} (h0 : 0 ≤ b) (h1 : b ≤ 255) : bitB b 1 = decide (b / 2 % 2 = 1) := by
  have := bit1_fin ⟨b.toNat, by omega⟩
  rwa [show ((⟨b.toNat, by omega⟩ : Fin 256).val : Int) = b by simp; omega] at this
end Go.Proofs.YtleofglnlfpoeaaGreat
namespace Go.Proofs.YtleofglnlfpoeaaGreat
open Go.RowKit
set_option linter.unusedVariables false
set_option linter.unusedSimpArgs false
set_option maxRecDepth 100000
/-- What a call on a timer leaves. -/
def TmR (v : Value) (g : Nat) (T : TypeId) (cs : Array Value) (o : Nat) (s : Tm) (w : World) (e : Ending) (w' : World) : Prop := e = .returned v ∧ TM w' g T cs o s ∧ Kp [g] w w'
section
variable {w : World} {g : Nat} {T : TypeId} {cs : Array Value} {o : Nat} {s : Tm}
theorem TM.put {x : Value} {k : Nat} {s' : Tm} (h : TM w g T cs o s) (e : (tmPut cs o s).setIfInBounds k x = tmPut cs o s') (hs : s'.ok) : TM (w.setCell ⟨g, k, none⟩ x) g T cs o s' ∧ Kp [g] w (w.setCell ⟨g, k, none⟩ x) := by
  refine ⟨⟨?_, h.2.1, hs⟩, (Kp.refl _ _).setCell (.inl (by simp)) _⟩
  rw [← e]
  exact h.1.set_ k x
def Tm.turn (s : Tm) (b : Bool) : Tm := if b = true then if s.on = true then s else ⟨0, s.r, s.r, true⟩ else ⟨s.gone, s.c, s.r, false⟩
theorem tturn_any (h : TM w g T cs o s) (b : Bool) :
    Calls Tryz.prog 163 #[.pointer (some ⟨g, o, none⟩), .bool b] w (TmR (.tuple #[]) g T cs o (s.turn b) w) := by
  have hz := h.2.1
  obtain ⟨k0, k1, k2⟩ := h.2.2
  obtain ⟨c0, c1, c2, c3⟩ := h.cells
  have f0 := h.1.frozen o
  have f1 := h.1.frozen (o + 1)
  have f3 := h.1.frozen (o + 3)
  obtain ⟨gone, c, r, on⟩ := s
  dsimp only at c0 c1 c2 c3 k0 k1 k2
  have H := Lib.hid h
  have HZ := Lib.hid hz
  clear h hz
  cases b with
  | false =>
    go_enter Tryz.func163, Tryz.ntmps163
    go_wp2
    first | go_end0 | refine bodyPost_ret (results_none rfl _ _ _) rfl ?_
    obtain ⟨q1, q2⟩ := H.out.put (tmPut_on HZ.out false) ⟨k0, k1, k2⟩
    exact ⟨rfl, q1, q2⟩
  | true =>
    cases on with
    | true =>
      go_enter Tryz.func163, Tryz.ntmps163
      go_wp2
      first | go_end0 | refine bodyPost_ret (results_none rfl _ _ _) rfl ?_
      obtain ⟨q1, q2⟩ := H.out.put (tmPut_on HZ.out true) ⟨k0, k1, k2⟩
      exact ⟨rfl, q1, q2⟩
    | false =>
      go_enter Tryz.func163, Tryz.ntmps163
      go_wp2
      first | go_end0 | refine bodyPost_ret (results_none rfl _ _ _) rfl ?_
      obtain ⟨p1, p2⟩ := H.out.put (tmPut_c HZ.out r) ⟨k0, k2, k2⟩
      obtain ⟨q1, q2⟩ := p1.put (tmPut_gone HZ.out 0) ⟨by dsimp only; omega, k2, k2⟩
      obtain ⟨r1, r2⟩ := q1.put (tmPut_on HZ.out true) ⟨by dsimp only; omega, k2, k2⟩
      exact ⟨rfl, r1, (p2.trans q2 (by simp)).trans r2 (by simp)⟩
theorem tm_wr (s : Tm) (b : Int) : s.wr 1 b = s.turn (decide (b % 2 = 1)) := by
  unfold Tm.wr Tm.turn
  rw [if_neg (by omega), if_pos rfl]
  by_cases h : b % 2 = 1
  · simp [h]
  · simp [h]
theorem twrite_any (h : TM w g T cs o s) (reg b : Int) (b0 : 0 ≤ b) (b1 : b ≤ 255) :
    Calls Tryz.prog 116 #[.pointer (some ⟨g, o, none⟩), .int .i64 reg, .int .u8 b] w (TmR (.tuple #[]) g T cs o (s.wr reg b) w) := by
  have hz := h.2.1
  have hk := h.2.2
  have f2 := h.1.frozen (o + 2)
  have H := Lib.hid h
  have HZ := Lib.hid hz
  have HK := Lib.hid hk
  clear h hz hk
  by_cases h0 : reg = 0
  · subst h0
    have e : s.wr 0 b = ⟨s.gone, s.c, (b % 128).toNat, s.on⟩ := by unfold Tm.wr; rw [if_pos rfl]
    rw [e]
    have i1 : ((b % 128).toNat : Int) = b % 128 := by omega
    have c2 := H.out.cells.2.2.1
    obtain ⟨p1, p2⟩ := H.out.put (tmPut_r HZ.out (b % 128).toNat) (s' := ⟨s.gone, s.c, (b % 128).toNat, s.on⟩) ⟨HK.out.1, HK.out.2.1, by dsimp only; omega⟩
    rw [i1] at p1 p2
    have P1 := Lib.hid p1
    have P2 := Lib.hid p2
    clear e i1 p1 p2
    go_enter Tryz.func116, Tryz.ntmps116
    go_wp2
    first | go_end0 | refine bodyPost_ret (results_none rfl _ _ _) rfl ?_
    exact ⟨rfl, P1.out, P2.out⟩
  · by_cases h1 : reg = 1
    · subst h1
      rw [tm_wr, ← bit0_eq b0 b1]
      go_enter Tryz.func116, Tryz.ntmps116
      go_wp2_with fail
      refine (bit_any _ _ _).mono ?_
      rintro e w' ⟨rfl, rfl⟩
      go_wp2_with fail
      refine (tturn_any H.out _).mono ?_
      rintro e w' ⟨rfl, q1, q2⟩
      go_wp2
      first | go_end0 | refine bodyPost_ret (results_none rfl _ _ _) rfl ?_
      exact ⟨rfl, q1, q2⟩
    · have e : s.wr reg b = s := by unfold Tm.wr; rw [if_neg h0, if_neg h1]
      rw [e]
      have n0 : (reg == 0) = false := by simpa using h0
      have n1 : (reg == 1) = false := by simpa using h1
      clear e
      go_enter Tryz.func116, Tryz.ntmps116
      go_wp2
      first | go_end0 | refine bodyPost_ret (results_none rfl _ _ _) rfl ?_
      exact ⟨rfl, H.out, Kp.refl _ _⟩
def TCloneR (g : Nat) (s : Tm) (w : World) (e : Ending) (w' : World) : Prop :=
  e = .returned (.pointer (some ⟨w.heap.size, 0, none⟩)) ∧ TM w' w.heap.size 75 (Array.replicate 4 .nilFunc) 0 s ∧ Below w.heap.size w w'
theorem tclone_any (h : TM w g T cs o s) :
    Calls Tryz.prog 96 #[.pointer (some ⟨g, o, none⟩)] w (TCloneR g s w) := by
  have hk := h.2.2
  obtain ⟨c0, c1, c2, c3⟩ := h.cells
  have HK := Lib.hid hk
  clear h hk
  go_enter Tryz.func96, Tryz.ntmps96
  go_wp2
  go_ret
  exact ⟨rfl, ⟨Blk.new w _ _, by decide, HK.out⟩, (Below.refl _ _).alloc (Nat.le_refl _) _⟩
theorem ttick_any (h : TM w g T cs o s) :
    Calls Tryz.prog 187 #[.pointer (some ⟨g, o, none⟩)] w (TmR (.bool (decide (s.c = 0))) g T cs o ⟨s.gone, tkS s.r s.c, s.r, s.on⟩ w) := by
  have hz := h.2.1
  obtain ⟨k0, k1, k2⟩ := h.2.2
  obtain ⟨c0, c1, c2, c3⟩ := h.cells
  have f1 := h.1.frozen (o + 1)
  have H := Lib.hid h
  have HZ := Lib.hid hz
  clear h hz
  by_cases h0 : s.c = 0
  · have e : tkS s.r s.c = s.r := by unfold tkS; rw [if_pos h0]
    rw [e, decide_eq_true h0]
    obtain ⟨p1, p2⟩ := H.out.put (tmPut_c HZ.out s.r) ⟨k0, k2, k2⟩
    have P1 := Lib.hid p1
    have P2 := Lib.hid p2
    rw [h0] at c1
    clear e p1 p2 h0 k0 k1 k2 c0 c3
    go_enter Tryz.func187, Tryz.ntmps187
    go_wp2
    go_ret
    exact ⟨rfl, P1.out, P2.out⟩
  · have e : tkS s.r s.c = s.c - 1 := by unfold tkS; rw [if_neg h0]
    rw [e, decide_eq_false h0]
    obtain ⟨p1, p2⟩ := H.out.put (tmPut_c HZ.out (s.c - 1)) ⟨k0, by dsimp only; omega, k2⟩
    have i1 : ((s.c - 1 : Nat) : Int) = (s.c : Int) - 1 := by omega
    rw [i1] at p1 p2
    have P1 := Lib.hid p1
    have P2 := Lib.hid p2
    have j0 : (0 : Int) < (s.c : Int) := by omega
    clear e p1 p2 i1 k0 k2 c0 c3
    go_enter Tryz.func187, Tryz.ntmps187
    go_wp2
    go_ret
    exact ⟨rfl, P1.out, P2.out⟩
end
end Go.Proofs.YtleofglnlfpoeaaGreat
namespace Go.Proofs.YtleofglnlfpoeaaGreat
open Go.RowKit
set_option linter.unusedVariables false
set_option linter.unusedSimpArgs false
set_option maxRecDepth 100000
theorem kp_new {L : List Nat} {a w w' w2 : World} {b : Nat} (h : Kp L a w) (hw : Kp [] w w') (k : Kp [b] w' w2) (hb : w.heap.size ≤ b) : Kp L a w2 :=
  (h.trans hw (by simp)).trans k fun y hy => .inr (by
    have h1 : y = b := by simpa using hy
    have h2 := h.size
    omega)
section
variable {w : World} {g : Nat} {T : TypeId} {cs : Array Value} {o : Nat} {s : Tm}
theorem tpass_any (h : TM w g T cs o s) (n : Nat) (hn : n ≤ 9223372036854775807) :
    Calls Tryz.prog 176 #[.pointer (some ⟨g, o, none⟩), .int .i64 n] w (TmR (.int .i64 ((s.gone + n) / 3072 : Nat)) g T cs o ⟨(s.gone + n) % 3072, s.c, s.r, s.on⟩ w) := by
  have hz := h.2.1
  obtain ⟨k0, k1, k2⟩ := h.2.2
  obtain ⟨c0, c1, c2, c3⟩ := h.cells
  have f0 := h.1.frozen o
  have H := Lib.hid h
  have HZ := Lib.hid hz
  clear h hz c1 c2 c3
  obtain ⟨p1, p2⟩ := H.out.put (tmPut_gone HZ.out ((s.gone + n) % 3072)) ⟨Nat.mod_lt _ (by omega), k1, k2⟩
  have i1 : (((s.gone + n) % 3072 : Nat) : Int) = ((s.gone : Int) + (n : Int)) % 3072 := by omega
  have i2 : (((s.gone + n) / 3072 : Nat) : Int) = (n : Int) / 3072 + ((s.gone : Int) + (n : Int) % 3072) / 3072 := by omega
  rw [i1] at p1 p2
  rw [i2]
  have P1 := Lib.hid p1
  have P2 := Lib.hid p2
  clear p1 p2 i1 i2
  go_enter Tryz.func176, Tryz.ntmps176
  go_wp2
  go_ret
  exact ⟨rfl, P1.out, P2.out⟩
theorem tkC_one (r k c : Nat) : tkC r (k + 1) c = tkS r (tkC r k c) := by rw [tkC_add]; rfl
theorem tkO_one (r k c : Nat) : tkO r (k + 1) c = tkO r k c + if tkC r k c = 0 then 1 else 0 := by rw [tkO_add]; rfl
set_option maxHeartbeats 1000000 in
theorem ttimes_any (h : TM w g T cs o s) (n : Nat) (hn : n ≤ 9223372036854775807) :
    Calls Tryz.prog 186 #[.int .i64 n, .func (.func 187) #[.pointer (some ⟨g, o, none⟩)] #[]] w (TmR (.int .i64 (tkO s.r n s.c)) g T cs o ⟨s.gone, tkC s.r n s.c, s.r, s.on⟩ w) := by
  have H := Lib.hid h
  clear h
  go_enter Tryz.func186, Tryz.ntmps186
  go_wp2_with fail
  go_loopw [5, 7] (fun y i wr => ∃ k : Nat, k ≤ n ∧ i = .int .i64 k ∧ y = .int .i64 (tkO s.r k s.c) ∧ TM wr g T cs o ⟨s.gone, tkC s.r k s.c, s.r, s.on⟩ ∧ Kp [g] w wr) (fun _ i _ => n - (intOf i).toNat)
  case atStart => exact ⟨0, by omega, rfl, rfl, H.out, Kp.refl _ _⟩
  case round =>
    obtain ⟨k, hk, rfl, rfl, hT, hK⟩ := hrel
    have HT := Lib.hid hT
    have HK := Lib.hid hK
    clear hT hK
    by_cases hlt : k < n
    · have o1 := tkO_one s.r k s.c
      have c1 := tkC_one s.r k s.c
      have ol := tkO_le s.r k s.c
      generalize hy : tkO s.r k s.c = y at *
      generalize hc : tkC s.r k s.c = c at *
      have HY := Lib.hid hy
      have HC := Lib.hid hc
      have O1 := Lib.hid o1
      have C1 := Lib.hid c1
      have ij : (k : Int) < n := by omega
      clear hy hc o1 c1
      go_wp2_with fail
      refine (ttick_any HT.out).mono ?_
      rintro e w1 ⟨rfl, q1, q2⟩
      dsimp only at q1
      have Q1 := Lib.hid q1
      have Q2 := Lib.hid (HK.out.trans q2 (by simp))
      clear q1 q2
      by_cases h0 : c = 0
      · have d0 : decide (c = 0) = true := decide_eq_true h0
        dsimp only
        rw [d0]
        clear d0
        go_wp2_with fail
        go_roundw
        case rel => exact ⟨k + 1, by omega, by go_num, by rw [O1.out, if_pos h0]; go_num, by rw [C1.out]; exact Q1.out, Q2.out⟩
        case measure => simp [intOf]; omega
      · have d0 : decide (c = 0) = false := decide_eq_false h0
        dsimp only
        rw [d0]
        clear d0
        go_wp2_with fail
        go_roundw
        case rel => exact ⟨k + 1, by omega, by go_num, by rw [O1.out, if_neg h0]; rfl, by rw [C1.out]; exact Q1.out, Q2.out⟩
        case measure => simp [intOf]; omega
    · obtain rfl : k = n := by omega
      go_wp2
      go_ret
      exact ⟨rfl, HT.out, HK.out⟩
theorem tmC_new (a : Int) (b c : Int) (d : Bool) (s : Tm) (ha : a = s.gone) (hb : b = s.c) (hc : c = s.r) (hd : d = s.on) (hk : s.ok) (w : World) :
    TM (w.alloc (.cells #[.int .i64 a, .int .u8 b, .int .u8 c, .bool d] 75)) w.heap.size 75 (Array.replicate 4 .nilFunc) 0 s := by
  subst ha hb hc hd
  exact ⟨Blk.new w _ _, by decide, hk⟩
theorem TM.put4 (h : TM w g T cs o s) (s' : Tm) (hs : s'.ok) :
    TM ((((w.setCell ⟨g, o, none⟩ (.int .i64 s'.gone)).setCell ⟨g, o + 1, none⟩ (.int .u8 s'.c)).setCell ⟨g, o + 2, none⟩ (.int .u8 s'.r)).setCell ⟨g, o + 3, none⟩ (.bool s'.on)) g T cs o s' ∧
    Kp [g] w ((((w.setCell ⟨g, o, none⟩ (.int .i64 s'.gone)).setCell ⟨g, o + 1, none⟩ (.int .u8 s'.c)).setCell ⟨g, o + 2, none⟩ (.int .u8 s'.r)).setCell ⟨g, o + 3, none⟩ (.bool s'.on)) := by
  have hz := h.2.1
  obtain ⟨a1, a2, a3⟩ := hs
  obtain ⟨k0, k1, k2⟩ := h.2.2
  obtain ⟨p1, p2⟩ := h.put (tmPut_gone hz s'.gone) ⟨a1, k1, k2⟩
  obtain ⟨q1, q2⟩ := p1.put (tmPut_c hz s'.c) ⟨a1, a2, k2⟩
  obtain ⟨r1, r2⟩ := q1.put (tmPut_r hz s'.r) ⟨a1, a2, a3⟩
  obtain ⟨t1, t2⟩ := r1.put (tmPut_on hz s'.on) ⟨a1, a2, a3⟩
  exact ⟨t1, ((p2.trans q2 (by simp)).trans r2 (by simp)).trans t2 (by simp)⟩
set_option maxHeartbeats 2000000 in
theorem tticks_any (h : TM w g T cs o s) (n : Nat) (hn : n ≤ 9223372036854775807) :
    Calls Tryz.prog 175 #[.pointer (some ⟨g, o, none⟩), .int .i64 n] w (TmR (.int .i64 (tkO s.r n s.c)) g T cs o ⟨s.gone, tkC s.r n s.c, s.r, s.on⟩ w) := by
  obtain ⟨k0, k1, k2⟩ := h.2.2
  have H := Lib.hid h
  clear h
  obtain ⟨N, hN⟩ : ∃ N, tkO s.r n s.c = N := ⟨_, rfl⟩
  obtain ⟨C, hC⟩ : ∃ C, tkC s.r n s.c = C := ⟨_, rfl⟩
  have hNn : N ≤ n := by rw [← hN]; exact tkO_le _ _ _
  rw [hN, hC]
  have HN := Lib.hid hN
  have HC := Lib.hid hC
  clear hN hC
  go_enter Tryz.func175, Tryz.ntmps175
  go_wp2_with fail
  go_loopw [1, 5] (fun x y wr => ∃ m c v : Nat, x = .int .i64 m ∧ m ≤ n ∧ y = .int .i64 v ∧ v + tkO s.r m c = N ∧ tkC s.r m c = C ∧ c ≤ 127 ∧ TM wr g T cs o ⟨s.gone, c, s.r, s.on⟩ ∧ Kp [g] w wr) (fun x _ _ => (intOf x).toNat)
  case atStart => exact ⟨n, s.c, 0, rfl, Nat.le_refl _, rfl, by rw [Nat.zero_add]; exact HN.out, HC.out, k1, H.out, Kp.refl _ _⟩
  case round =>
    obtain ⟨m, c, v, rfl, hm, rfl, hv, hCm, hc, hT, hK⟩ := hrel
    have hz := hT.2.1
    obtain ⟨c0, c1, c2, c3⟩ := hT.cells
    have f0 := hT.1.frozen o
    have f1 := hT.1.frozen (o + 1)
    have f2 := hT.1.frozen (o + 2)
    have f3 := hT.1.frozen (o + 3)
    dsimp only at c0 c1 c2 c3
    have HT := Lib.hid hT
    have HK := Lib.hid hK
    have HV := Lib.hid hv
    have HM := Lib.hid hCm
    have hvN : v ≤ N := by omega
    clear hT hK hv hCm H
    by_cases hpos : 0 < m
    · have jpos : (0 : Int) < m := by omega
      obtain ⟨R, hR⟩ : ∃ R, min m (s.r + 1) = R := ⟨_, rfl⟩
      have hRm : R ≤ m := by omega
      have hR0 : 0 < R := by omega
      have hRr : R ≤ s.r + 1 := by omega
      have eR : (if (s.r : Int) + 1 < m then (s.r : Int) + 1 else m) = R := by split <;> omega
      clear hR
      go_wp2_with fail
      have HA := tmC_new (s.gone : Int) (c : Int) (s.r : Int) s.on ⟨s.gone, c, s.r, s.on⟩ rfl rfl rfl rfl ⟨k0, hc, k2⟩ wr
      refine (ttimes_any HA R (by omega)).mono ?_
      dsimp only
      have hx : tkO s.r R c ≤ R := tkO_le _ _ _
      have hd : tkC s.r R c ≤ 127 := tkC_le k2 hc
      have add1 := tkC_add s.r R (m - R) c
      have add2 := tkO_add s.r R (m - R) c
      have loop := fun h => tk_loop (r := s.r) (m := R) (c := c) h (m / R)
      rw [show R + (m - R) = m by omega] at add1 add2
      generalize ex : tkO s.r R c = x at *
      generalize ed : tkC s.r R c = d at *
      have A1 := Lib.hid add1
      have A2 := Lib.hid add2
      have LP := Lib.hid loop
      rintro e w1 ⟨rfl, q1, q2⟩
      have hgl : g < wr.heap.size := HT.out.lt
      have kA : Kp [] wr (wr.alloc (.cells #[.int .i64 (s.gone : Int), .int .u8 (c : Int), .int .u8 (s.r : Int), .bool s.on] 75)) := (Kp.refl _ _).alloc _
      have T1 : TM w1 g T cs o ⟨s.gone, c, s.r, s.on⟩ := (HT.out.kp kA (by simp)).kp q2 (by simp; omega)
      have K1 : Kp [g] w w1 := kp_new HK.out kA q2 (Nat.le_refl _)
      obtain ⟨a0, a1, a2, a3⟩ := T1.cells
      obtain ⟨d0, d1, d2, d3⟩ := q1.cells
      have g0 := T1.1.frozen o
      have g1 := T1.1.frozen (o + 1)
      have g2 := T1.1.frozen (o + 2)
      have g3 := T1.1.frozen (o + 3)
      dsimp only [Nat.zero_add] at a0 a1 a2 a3 d0 d1 d2 d3
      have HT1 := Lib.hid T1
      have HK1 := Lib.hid K1
      have HQ1 := Lib.hid q1
      clear add1 add2 loop ex ed HA q1 q2 kA T1 K1 c0 c1 c2 c3 f0 f1 f2 f3 eR HT HK
      by_cases hdc : d = c
      · obtain ⟨l1, l2⟩ := LP.out hdc
        obtain ⟨q, hq⟩ : ∃ q, m / R = q := ⟨_, rfl⟩
        have hqR : q * R ≤ m := by rw [← hq]; exact Nat.div_mul_le_self m R
        have hq0 : 1 ≤ q := by rw [← hq]; exact (Nat.one_le_div_iff hR0).2 hRm
        have hqx : q * x ≤ q * R := Nat.mul_le_mul_left q hx
        have hR1 : R ≤ q * R := Nat.le_mul_of_pos_left R hq0
        have hqm : q ≤ m := by rw [← hq]; exact Nat.div_le_self m R
        rw [hq] at l1 l2
        have e1 : (m : Int) / (R : Int) = (q : Int) := by rw [← hq]; rfl
        have e2 : Int.tdiv (m : Int) (R : Int) = (q : Int) := by rw [Int.tdiv_eq_ediv_of_nonneg (by omega)]; exact e1
        have e3 : (q : Int) * (x : Int) = ((q * x : Nat) : Int) := by simp
        have e4 : (q : Int) * (R : Int) = ((q * R : Nat) : Int) := by simp
        generalize q * x = px at *
        generalize q * R = y at *
        have a5 := tkC_add s.r y (m - y) c
        have a6 := tkO_add s.r y (m - y) c
        rw [show y + (m - y) = m by omega, l1] at a5 a6
        rw [l2] at a6
        have A5 := Lib.hid a5
        have A6 := Lib.hid a6
        have hsum : v + px ≤ N := by have := HV.out; omega
        have jR : (0 : Int) < (R : Int) := by omega
        have jR1 : ¬ (R : Int) = 0 := by omega
        have jR2 : ((R : Int) == 0) = false := by simpa using jR1
        have tc : ((d : Int) == (c : Int)) = true := by rw [hdc]; simp
        have hdc' := Lib.hid hdc
        clear hq l1 l2 a5 a6 hdc LP A1 A2
        go_wp2_with fail
        go_quiet (fail)
        go_wp2_with fail
        obtain ⟨r1, r2⟩ := TM.put4 (w := w1.drewN nq) (T := T) (cs := cs) (o := o) (by exact HT1.out) ⟨s.gone, d, s.r, s.on⟩ ⟨k0, hd, k2⟩
        refine ⟨⟨m - y, d, v + px, by congr 1 <;> omega, by omega, by congr 1 <;> omega, ?_, ?_, hd, r1, (HK1.out.drewN nq).trans r2 (by simp)⟩, ?_⟩
        · have := A6.out; have := HV.out; rw [hdc'.out]; omega
        · have := A5.out; rw [hdc'.out, ← this]; exact HM.out
        · simp only [intOf]; omega
      · have nb : ((d : Int) == (c : Int)) = false := by
          have : ¬ (d : Int) = c := by omega
          simpa using this
        have hsum : v + x ≤ N := by have := HV.out; have := A2.out; omega
        clear LP
        go_wp2_with fail
        go_quiet (fail)
        go_wp2_with fail
        obtain ⟨r1, r2⟩ := TM.put4 (w := w1.drewN nq) (T := T) (cs := cs) (o := o) (by exact HT1.out) ⟨s.gone, d, s.r, s.on⟩ ⟨k0, hd, k2⟩
        refine ⟨⟨m - R, d, v + x, by congr 1 <;> omega, by omega, by congr 1 <;> omega, ?_, ?_, hd, r1, (HK1.out.drewN nq).trans r2 (by simp)⟩, ?_⟩
        · have := A2.out; have := HV.out; omega
        · have := A1.out; rw [← this]; exact HM.out
        · simp only [intOf]; omega
    · obtain rfl : m = 0 := by omega
      have e1 : v = N := by have := HV.out; simpa [tkO] using this
      have e2 : c = C := by have := HM.out; simpa [tkC] using this
      subst e1 e2
      go_wp2
      go_ret
      exact ⟨rfl, HT.out, HK.out⟩
theorem tgo_any (h : TM w g T cs o s) (n : Int) (hn : n ≤ 9223372036854775807) :
    Calls Tryz.prog 153 #[.pointer (some ⟨g, o, none⟩), .int .i64 n] w (TmR (.int .i64 (s.overN n.toNat)) g T cs o (s.goN n.toNat) w) := by
  have H := Lib.hid h
  clear h
  by_cases hon : s.on = true
  · obtain ⟨m, hm⟩ : ∃ m : Nat, n.toNat = m := ⟨_, rfl⟩
    have e1 : s.overN n.toNat = tkO s.r ((s.gone + m) / 3072) s.c := by unfold Tm.overN; rw [if_pos hon, hm]
    have e2 : s.goN n.toNat = ⟨(s.gone + m) % 3072, tkC s.r ((s.gone + m) / 3072) s.c, s.r, s.on⟩ := by unfold Tm.goN; rw [if_pos hon, hm, hon]
    rw [e1, e2]
    have eM : (if n < 0 then 0 else n) = (m : Int) := by split <;> omega
    have hk := H.out.2.2.1
    have hmn : m ≤ 9223372036854775807 := by omega
    have HO := Lib.hid hon
    clear e1 e2 hm hon
    go_enter Tryz.func153, Tryz.ntmps153
    go_wp2_with fail
    refine (ton_any H.out).mono ?_
    rw [HO.out]
    rintro e w' ⟨rfl, rfl⟩
    go_wp2_with fail
    refine (tpass_any H.out m hmn).mono ?_
    rintro e w1 ⟨rfl, q1, q2⟩
    have Q1 := Lib.hid q1
    clear q1
    go_wp2_with fail
    refine (tticks_any Q1.out ((s.gone + m) / 3072) (by omega)).mono ?_
    rintro e w2 ⟨rfl, r1, r2⟩
    dsimp only at r1
    have R1 := Lib.hid r1
    clear r1
    go_wp2_with fail
    go_ret
    exact ⟨rfl, R1.out, q2.trans r2 (by simp)⟩
  · have e1 : s.overN n.toNat = 0 := by unfold Tm.overN; rw [if_neg hon]
    have e2 : s.goN n.toNat = s := by unfold Tm.goN; rw [if_neg hon]
    rw [e1, e2]
    have hf : s.on = false := by simpa using hon
    have HO := Lib.hid hf
    clear e1 e2 hf hon
    go_enter Tryz.func153, Tryz.ntmps153
    go_wp2_with fail
    refine (ton_any H.out).mono ?_
    rw [HO.out]
    rintro e w' ⟨rfl, rfl⟩
    go_wp2_with fail
    go_ret
    exact ⟨rfl, H.out, Kp.refl _ _⟩
end
end Go.Proofs.YtleofglnlfpoeaaGreat
