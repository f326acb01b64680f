/-
  Texts of this proof, one behind the other: Tim3, By, G9, Cart7, Feed1, Feed2, Feed3, Feed9, Port1, Port2, Lat1, MLat, Hard1, Feed5, Hard8, Hard2, Hard3, Hard7, Hard6, Phys1, Phys2, Hard4.
-/
import Derived.Test.YtjknjlkjpccibaaKTopEdges1
import Derived.IntWalk
import Derived.Deep.LoopGhost
import Derived.RegionTactic
import Derived.Deep.AppendLies
import Derived.Laws.CopyRow
import Derived.FnLit
import Derived.Laws.Small
import Derived.Deep.QuietTactic
import Derived.BigQuiet
import Derived.StillTailTactics
import Derived.BigRegion
import Derived.Laws.EntriesVeiled
import Derived.Handy
import Derived.LoopN
import Derived.Deep.Cut
import Derived.Deep.CutRange
import Derived.Laws.Tables
import Derived.Deep.WholeRow
namespace Go.Proofs.Ytjknjlkjpccibaa
open Go.RowKit
set_option linter.unusedVariables false
set_option linter.unusedSimpArgs false
set_option maxRecDepth 100000
theorem kp_new {L : List Nat} {a w w' w2 : World} {b : Nat} (h : Kp L a w) (hw : Kp [] w w') (k : Kp [b] w' w2) (hb : w.heap.size ≤ b) : Kp L a w2 :=
  (h.trans hw (by simp)).trans k fun y hy => .inr (by
    have h1 : y = b := by simpa using hy
    have h2 := h.size
    omega)
section
variable {w : World} {g : Nat} {T : TypeId} {cs : Array Value} {o : Nat} {s : Tm}
theorem tpass_any (h : TM w g T cs o s) (n : Nat) (hn : n ≤ 9223372036854775807) :
    Calls Try.prog 80 #[.pointer (some ⟨g, o, none⟩), .int .i64 n] w (TmR (.int .i64 ((s.gone + n) / 3072 : Nat)) g T cs o ⟨(s.gone + n) % 3072, s.c, s.r, s.on⟩ w) := by
  have hz := h.2.1
  obtain ⟨k0, k1, k2⟩ := h.2.2
  obtain ⟨c0, c1, c2, c3⟩ := h.cells
  have f0 := h.1.frozen o
  have H := Lib.hid h
  have HZ := Lib.hid hz
  clear h hz c1 c2 c3
  obtain ⟨p1, p2⟩ := H.out.put (tmPut_gone HZ.out ((s.gone + n) % 3072)) ⟨Nat.mod_lt _ (by omega), k1, k2⟩
  have i1 : (((s.gone + n) % 3072 : Nat) : Int) = ((s.gone : Int) + (n : Int)) % 3072 := by omega
  have i2 : (((s.gone + n) / 3072 : Nat) : Int) = (n : Int) / 3072 + ((s.gone : Int) + (n : Int) % 3072) / 3072 := by omega
  rw [i1] at p1 p2
  rw [i2]
  have P1 := Lib.hid p1
  have P2 := Lib.hid p2
  clear p1 p2 i1 i2
  go_enter Try.func80, Try.ntmps80
  go_wp2
  go_ret
  exact ⟨rfl, P1.out, P2.out⟩
theorem tkC_one (r k c : Nat) : tkC r (k + 1) c = tkS r (tkC r k c) := by rw [tkC_add]; rfl
theorem tkO_one (r k c : Nat) : tkO r (k + 1) c = tkO r k c + if tkC r k c = 0 then 1 else 0 := by rw [tkO_add]; rfl
set_option maxHeartbeats 1000000 in
theorem ttimes_any (h : TM w g T cs o s) (n : Nat) (hn : n ≤ 9223372036854775807) :
    Calls Try.prog 87 #[.int .i64 n, .func (.func 88) #[.pointer (some ⟨g, o, none⟩)] #[]] w (TmR (.int .i64 (tkO s.r n s.c)) g T cs o ⟨s.gone, tkC s.r n s.c, s.r, s.on⟩ w) := by
  have H := Lib.hid h
  clear h
  go_enter Try.func87, Try.ntmps87
  go_wp2_with fail
  go_loopw [5, 7] (fun y i wr => ∃ k : Nat, k ≤ n ∧ i = .int .i64 k ∧ y = .int .i64 (tkO s.r k s.c) ∧ TM wr g T cs o ⟨s.gone, tkC s.r k s.c, s.r, s.on⟩ ∧ Kp [g] w wr) (fun _ i _ => n - (intOf i).toNat)
  case atStart => exact ⟨0, by omega, rfl, rfl, H.out, Kp.refl _ _⟩
  case round =>
    obtain ⟨k, hk, rfl, rfl, hT, hK⟩ := hrel
    have HT := Lib.hid hT
    have HK := Lib.hid hK
    clear hT hK
    by_cases hlt : k < n
    · have o1 := tkO_one s.r k s.c
      have c1 := tkC_one s.r k s.c
      have ol := tkO_le s.r k s.c
      generalize hy : tkO s.r k s.c = y at *
      generalize hc : tkC s.r k s.c = c at *
      have HY := Lib.hid hy
      have HC := Lib.hid hc
      have O1 := Lib.hid o1
      have C1 := Lib.hid c1
      have ij : (k : Int) < n := by omega
      clear hy hc o1 c1
      go_wp2_with fail
      refine (ttick_any HT.out).mono ?_
      rintro e w1 ⟨rfl, q1, q2⟩
      dsimp only at q1
      have Q1 := Lib.hid q1
      have Q2 := Lib.hid (HK.out.trans q2 (by simp))
      clear q1 q2
      by_cases h0 : c = 0
      · have d0 : decide (c = 0) = true := decide_eq_true h0
        dsimp only
        rw [d0]
        clear d0
        go_wp2_with fail
        go_roundw
        case rel => exact ⟨k + 1, by omega, by go_num, by rw [O1.out, if_pos h0]; go_num, by rw [C1.out]; exact Q1.out, Q2.out⟩
        case measure => simp [intOf]; omega
      · have d0 : decide (c = 0) = false := decide_eq_false h0
        dsimp only
        rw [d0]
        clear d0
        go_wp2_with fail
        go_roundw
        case rel => exact ⟨k + 1, by omega, by go_num, by rw [O1.out, if_neg h0]; rfl, by rw [C1.out]; exact Q1.out, Q2.out⟩
        case measure => simp [intOf]; omega
    · obtain rfl : k = n := by omega
      go_wp2
      go_ret
      exact ⟨rfl, HT.out, HK.out⟩
theorem tmC_new (a : Int) (b c : Int) (d : Bool) (s : Tm) (ha : a = s.gone) (hb : b = s.c) (hc : c = s.r) (hd : d = s.on) (hk : s.ok) (w : World) :
    TM (w.alloc (.cells #[.int .i64 a, .int .u8 b, .int .u8 c, .bool d] 91)) w.heap.size 91 (Array.replicate 4 .nilFunc) 0 s := by
  subst ha hb hc hd
  exact ⟨Blk.new w _ _, by decide, hk⟩
theorem TM.put4 (h : TM w g T cs o s) (s' : Tm) (hs : s'.ok) :
    TM ((((w.setCell ⟨g, o, none⟩ (.int .i64 s'.gone)).setCell ⟨g, o + 1, none⟩ (.int .u8 s'.c)).setCell ⟨g, o + 2, none⟩ (.int .u8 s'.r)).setCell ⟨g, o + 3, none⟩ (.bool s'.on)) g T cs o s' ∧
    Kp [g] w ((((w.setCell ⟨g, o, none⟩ (.int .i64 s'.gone)).setCell ⟨g, o + 1, none⟩ (.int .u8 s'.c)).setCell ⟨g, o + 2, none⟩ (.int .u8 s'.r)).setCell ⟨g, o + 3, none⟩ (.bool s'.on)) := by
  have hz := h.2.1
  obtain ⟨a1, a2, a3⟩ := hs
  obtain ⟨k0, k1, k2⟩ := h.2.2
  obtain ⟨p1, p2⟩ := h.put (tmPut_gone hz s'.gone) ⟨a1, k1, k2⟩
  obtain ⟨q1, q2⟩ := p1.put (tmPut_c hz s'.c) ⟨a1, a2, k2⟩
  obtain ⟨r1, r2⟩ := q1.put (tmPut_r hz s'.r) ⟨a1, a2, a3⟩
  obtain ⟨t1, t2⟩ := r1.put (tmPut_on hz s'.on) ⟨a1, a2, a3⟩
  exact ⟨t1, ((p2.trans q2 (by simp)).trans r2 (by simp)).trans t2 (by simp)⟩
set_option maxHeartbeats 2000000 in
theorem tticks_any (h : TM w g T cs o s) (n : Nat) (hn : n ≤ 9223372036854775807) :
    Calls Try.prog 79 #[.pointer (some ⟨g, o, none⟩), .int .i64 n] w (TmR (.int .i64 (tkO s.r n s.c)) g T cs o ⟨s.gone, tkC s.r n s.c, s.r, s.on⟩ w) := by
  obtain ⟨k0, k1, k2⟩ := h.2.2
  have H := Lib.hid h
  clear h
  obtain ⟨N, hN⟩ : ∃ N, tkO s.r n s.c = N := ⟨_, rfl⟩
  obtain ⟨C, hC⟩ : ∃ C, tkC s.r n s.c = C := ⟨_, rfl⟩
  have hNn : N ≤ n := by rw [← hN]; exact tkO_le _ _ _
  rw [hN, hC]
  have HN := Lib.hid hN
  have HC := Lib.hid hC
  clear hN hC
  go_enter Try.func79, Try.ntmps79
  go_wp2_with fail
  go_loopw [1, 5] (fun x y wr => ∃ m c v : Nat, x = .int .i64 m ∧ m ≤ n ∧ y = .int .i64 v ∧ v + tkO s.r m c = N ∧ tkC s.r m c = C ∧ c ≤ 127 ∧ TM wr g T cs o ⟨s.gone, c, s.r, s.on⟩ ∧ Kp [g] w wr) (fun x _ _ => (intOf x).toNat)
  case atStart => exact ⟨n, s.c, 0, rfl, Nat.le_refl _, rfl, by rw [Nat.zero_add]; exact HN.out, HC.out, k1, H.out, Kp.refl _ _⟩
  case round =>
    obtain ⟨m, c, v, rfl, hm, rfl, hv, hCm, hc, hT, hK⟩ := hrel
    have hz := hT.2.1
    obtain ⟨c0, c1, c2, c3⟩ := hT.cells
    have f0 := hT.1.frozen o
    have f1 := hT.1.frozen (o + 1)
    have f2 := hT.1.frozen (o + 2)
    have f3 := hT.1.frozen (o + 3)
    dsimp only at c0 c1 c2 c3
    have HT := Lib.hid hT
    have HK := Lib.hid hK
    have HV := Lib.hid hv
    have HM := Lib.hid hCm
    have hvN : v ≤ N := by omega
    clear hT hK hv hCm H
    by_cases hpos : 0 < m
    · have jpos : (0 : Int) < m := by omega
      obtain ⟨R, hR⟩ : ∃ R, min m (s.r + 1) = R := ⟨_, rfl⟩
      have hRm : R ≤ m := by omega
      have hR0 : 0 < R := by omega
      have hRr : R ≤ s.r + 1 := by omega
      have eR : (if (s.r : Int) + 1 < m then (s.r : Int) + 1 else m) = R := by split <;> omega
      clear hR
      go_wp2_with fail
      have HA := tmC_new (s.gone : Int) (c : Int) (s.r : Int) s.on ⟨s.gone, c, s.r, s.on⟩ rfl rfl rfl rfl ⟨k0, hc, k2⟩ wr
      refine (ttimes_any HA R (by omega)).mono ?_
      dsimp only
      have hx : tkO s.r R c ≤ R := tkO_le _ _ _
      have hd : tkC s.r R c ≤ 127 := tkC_le k2 hc
      have add1 := tkC_add s.r R (m - R) c
      have add2 := tkO_add s.r R (m - R) c
      have loop := fun h => tk_loop (r := s.r) (m := R) (c := c) h (m / R)
      rw [show R + (m - R) = m by omega] at add1 add2
      generalize ex : tkO s.r R c = x at *
      generalize ed : tkC s.r R c = d at *
      have A1 := Lib.hid add1
      have A2 := Lib.hid add2
      have LP := Lib.hid loop
      rintro e w1 ⟨rfl, q1, q2⟩
      have hgl : g < wr.heap.size := HT.out.lt
      have kA : Kp [] wr (wr.alloc (.cells #[.int .i64 (s.gone : Int), .int .u8 (c : Int), .int .u8 (s.r : Int), .bool s.on] 91)) := (Kp.refl _ _).alloc _
      have T1 : TM w1 g T cs o ⟨s.gone, c, s.r, s.on⟩ := (HT.out.kp kA (by simp)).kp q2 (by simp; omega)
      have K1 : Kp [g] w w1 := kp_new HK.out kA q2 (Nat.le_refl _)
      obtain ⟨a0, a1, a2, a3⟩ := T1.cells
      obtain ⟨d0, d1, d2, d3⟩ := q1.cells
      have g0 := T1.1.frozen o
      have g1 := T1.1.frozen (o + 1)
      have g2 := T1.1.frozen (o + 2)
      have g3 := T1.1.frozen (o + 3)
      dsimp only [Nat.zero_add] at a0 a1 a2 a3 d0 d1 d2 d3
      have HT1 := Lib.hid T1
      have HK1 := Lib.hid K1
      have HQ1 := Lib.hid q1
      clear add1 add2 loop ex ed HA q1 q2 kA T1 K1 c0 c1 c2 c3 f0 f1 f2 f3 eR HT HK
      by_cases hdc : d = c
      · obtain ⟨l1, l2⟩ := LP.out hdc
        obtain ⟨q, hq⟩ : ∃ q, m / R = q := ⟨_, rfl⟩
        have hqR : q * R ≤ m := by rw [← hq]; exact Nat.div_mul_le_self m R
        have hq0 : 1 ≤ q := by rw [← hq]; exact (Nat.one_le_div_iff hR0).2 hRm
        have hqx : q * x ≤ q * R := Nat.mul_le_mul_left q hx
        have hR1 : R ≤ q * R := Nat.le_mul_of_pos_left R hq0
        have hqm : q ≤ m := by rw [← hq]; exact Nat.div_le_self m R
        rw [hq] at l1 l2
        have e1 : (m : Int) / (R : Int) = (q : Int) := by rw [← hq]; rfl
        have e2 : Int.tdiv (m : Int) (R : Int) = (q : Int) := by rw [Int.tdiv_eq_ediv_of_nonneg (by omega)]; exact e1
        have e3 : (q : Int) * (x : Int) = ((q * x : Nat) : Int) := by simp
        have e4 : (q : Int) * (R : Int) = ((q * R : Nat) : Int) := by simp
        generalize q * x = px at *
        generalize q * R = y at *
        have a5 := tkC_add s.r y (m - y) c
        have a6 := tkO_add s.r y (m - y) c
        rw [show y + (m - y) = m by omega, l1] at a5 a6
        rw [l2] at a6
        have A5 := Lib.hid a5
        have A6 := Lib.hid a6
        have hsum : v + px ≤ N := by have := HV.out; omega
        have jR : (0 : Int) < (R : Int) := by omega
        have jR1 : ¬ (R : Int) = 0 := by omega
        have jR2 : ((R : Int) == 0) = false := by simpa using jR1
        have tc : ((d : Int) == (c : Int)) = true := by rw [hdc]; simp
        have hdc' := Lib.hid hdc
        clear hq l1 l2 a5 a6 hdc LP A1 A2
        go_wp2_with fail
        go_quiet (fail)
        go_wp2_with fail
        obtain ⟨r1, r2⟩ := TM.put4 (w := w1.drewN nq) (T := T) (cs := cs) (o := o) (by exact HT1.out) ⟨s.gone, d, s.r, s.on⟩ ⟨k0, hd, k2⟩
        refine ⟨⟨m - y, d, v + px, by congr 1 <;> omega, by omega, by congr 1 <;> omega, ?_, ?_, hd, r1, (HK1.out.drewN nq).trans r2 (by simp)⟩, ?_⟩
        · have := A6.out; have := HV.out; rw [hdc'.out]; omega
        · have := A5.out; rw [hdc'.out, ← this]; exact HM.out
        · simp only [intOf]; omega
      · have nb : ((d : Int) == (c : Int)) = false := by
          have : ¬ (d : Int) = c := by omega
          simpa using this
        have hsum : v + x ≤ N := by have := HV.out; have := A2.out; omega
        clear LP
        go_wp2_with fail
        go_quiet (fail)
        go_wp2_with fail
        obtain ⟨r1, r2⟩ := TM.put4 (w := w1.drewN nq) (T := T) (cs := cs) (o := o) (by exact HT1.out) ⟨s.gone, d, s.r, s.on⟩ ⟨k0, hd, k2⟩
        refine ⟨⟨m - R, d, v + x, by congr 1 <;> omega, by omega, by congr 1 <;> omega, ?_, ?_, hd, r1, (HK1.out.drewN nq).trans r2 (by simp)⟩, ?_⟩
        · have := A2.out; have := HV.out; omega
        · have := A1.out; rw [← this]; exact HM.out
        · simp only [intOf]; omega
    · obtain rfl : m = 0 := by omega
      have e1 : v = N := by have := HV.out; simpa [tkO] using this
      have e2 : c = C := by have := HM.out; simpa [tkC] using this
      subst e1 e2
      go_wp2
      go_ret
      exact ⟨rfl, HT.out, HK.out⟩
theorem tgo_any (h : TM w g T cs o s) (n : Int) (hn : n ≤ 9223372036854775807) :
    Calls Try.prog 56 #[.pointer (some ⟨g, o, none⟩), .int .i64 n] w (TmR (.int .i64 (s.overN n.toNat)) g T cs o (s.goN n.toNat) w) := by
  have H := Lib.hid h
  clear h
  by_cases hon : s.on = true
  · obtain ⟨m, hm⟩ : ∃ m : Nat, n.toNat = m := ⟨_, rfl⟩
    have e1 : s.overN n.toNat = tkO s.r ((s.gone + m) / 3072) s.c := by unfold Tm.overN; rw [if_pos hon, hm]
    have e2 : s.goN n.toNat = ⟨(s.gone + m) % 3072, tkC s.r ((s.gone + m) / 3072) s.c, s.r, s.on⟩ := by unfold Tm.goN; rw [if_pos hon, hm, hon]
    rw [e1, e2]
    have eM : (if n < 0 then 0 else n) = (m : Int) := by split <;> omega
    have hk := H.out.2.2.1
    have hmn : m ≤ 9223372036854775807 := by omega
    have HO := Lib.hid hon
    clear e1 e2 hm hon
    go_enter Try.func56, Try.ntmps56
    go_wp2_with fail
    refine (ton_any H.out).mono ?_
    rw [HO.out]
    rintro e w' ⟨rfl, rfl⟩
    go_wp2_with fail
    refine (tpass_any H.out m hmn).mono ?_
    rintro e w1 ⟨rfl, q1, q2⟩
    have Q1 := Lib.hid q1
    clear q1
    go_wp2_with fail
    refine (tticks_any Q1.out ((s.gone + m) / 3072) (by omega)).mono ?_
    rintro e w2 ⟨rfl, r1, r2⟩
    dsimp only at r1
    have R1 := Lib.hid r1
    clear r1
    go_wp2_with fail
    go_ret
    exact ⟨rfl, R1.out, q2.trans r2 (by simp)⟩
  · have e1 : s.overN n.toNat = 0 := by unfold Tm.overN; rw [if_neg hon]
    have e2 : s.goN n.toNat = s := by unfold Tm.goN; rw [if_neg hon]
    rw [e1, e2]
    have hf : s.on = false := by simpa using hon
    have HO := Lib.hid hf
    clear e1 e2 hf hon
    go_enter Try.func56, Try.ntmps56
    go_wp2_with fail
    refine (ton_any H.out).mono ?_
    rw [HO.out]
    rintro e w' ⟨rfl, rfl⟩
    go_wp2_with fail
    go_ret
    exact ⟨rfl, H.out, Kp.refl _ _⟩
end
end Go.Proofs.Ytjknjlkjpccibaa
namespace Go.Proofs.Ytjknjlkjpccibaa
open Go.RowKit
set_option linter.unusedVariables false
def bytesOf (z : Nat → Int) (n : Nat) : List Value := (List.range n).map fun i => .int .u8 (z i)
theorem bytesOf_len (z : Nat → Int) (n : Nat) : (bytesOf z n).length = n := by simp [bytesOf]
theorem bytesOf_at (z : Nat → Int) (n i : Nat) (h : i < n) : (bytesOf z n)[i]? = some (.int .u8 (z i)) := by simp [bytesOf, h]
theorem bytesOf_one (z : Nat → Int) (n : Nat) : ∀ v ∈ bytesOf z n, v.oneCell' = true := by
  intro v hv
  simp only [bytesOf, List.mem_map] at hv
  obtain ⟨i, _, rfl⟩ := hv
  rfl
end Go.Proofs.Ytjknjlkjpccibaa
namespace Go.Proofs.Ytjknjlkjpccibaa
open Go.RowKit
set_option linter.unusedVariables false
theorem more_new {P : Program} {t e ty : TypeId} {size bytes : Nat} {z : Value} {w : World} {base n m c g : Nat} {v : Value} {xs : List Value} (ht : P.underlying t = some (.slice e))
    (hinfo : (P.info? e).map (fun i => (i.zero, i.size, i.bytes)) = some (some z, size, bytes)) (hzs : z.cells.size = size) (hsz : 0 < size)
    (hown : w.ownsRow base e size v n xs) (cells : Array Value) (hlen : cells.size = m * size) (h1 : ∀ u ∈ cells.toList, u.oneCell' = true) (hg : g = w.heap.size)
    (hm : n + m ≤ 1099511627776) (hby : (n + m) * bytes ≤ 140737488355328) (hbase : base ≤ w.heap.size) :
    ∃ v' w', (Builtin.append_ #[t, t] ty #[v, .slice (some ⟨g, 0, none⟩) m c]).run P (w.alloc (.cells cells e)) = .ok v' w' ∧ w'.ownsRow base e size v' (n + m) (xs ++ cells.toList) ∧ (w.alloc (.cells cells e)).grownBy w' v.ownBlock := by
  subst hg
  obtain ⟨i, hi, hzz⟩ := Option.map_eq_some_iff.1 hinfo
  simp only [Prod.mk.injEq] at hzz
  obtain ⟨hz, hs, hb⟩ := hzz
  obtain ⟨v', w', h1', h2, h3, _, _⟩ := run_append_own_at (P := P) (w.alloc (.cells cells e)) base t ty e i z size bytes ht hi hz hs hb hzs hsz v n xs (hown.alloc _) ⟨w.heap.size, 0, none⟩ m c cells.toList (by simpa using hlen)
    (fun j u hu => by
      rw [add_zero_block, cell_of_row _ _ j _ e (0, 0) (heap_alloc_new w _)]
      simpa using hu)
    h1 (by unfold maxLen; omega) hby (by simp; omega)
  exact ⟨v', w', h1', h2, h3⟩
end Go.Proofs.Ytjknjlkjpccibaa
namespace Go.Proofs.Ytjknjlkjpccibaa
open Go.RowKit
set_option linter.unusedVariables false
theorem u8_info' : (Try.prog.info? 5).map (fun i => (i.zero, i.size, i.bytes)) = some (some (.int .u8 0), 1, 1) := by kernel_rfl
set_option maxRecDepth 100000 in
/-- Behind a new row of no bytes those of a slice that came in, one at least. -/
theorem clone_run {w : World} {ad : Addr} {n c : Nat} {z : Nat → Int} {t : TypeId} (hn : 0 < n) (hm : n ≤ 140737488355328) (R : IRow w .u8 (some ad) n z) :
    ∃ g cap w', (Builtin.append_ #[51, 51] t #[.slice (some ⟨w.heap.size, 0, none⟩) 0 0, .slice (some ad) n c]).run Try.prog (w.alloc (.cells #[] 5)) = .ok (.slice (some ⟨g, 0, none⟩) n cap) w' ∧
      n ≤ cap ∧ cap ≤ maxLen ∧ IRow w' .u8 (some ⟨g, 0, none⟩) n z ∧ (∃ C, Blk w' g 5 C) ∧ Below w.heap.size w w' := by
  obtain ⟨i, hi, hzz⟩ := Option.map_eq_some_iff.1 u8_info'
  simp only [Prod.mk.injEq] at hzz
  obtain ⟨hz, hs, hb⟩ := hzz
  have hB0 : Below w.heap.size w (w.alloc (.cells #[] 5)) := (Below.refl _ _).alloc (Nat.le_refl _) _
  have R0 := R.keep hB0
  have hown0 : (w.alloc (.cells #[] 5)).ownsRow w.heap.size 5 1 (.slice (some ⟨w.heap.size, 0, none⟩) 0 0) 0 [] :=
    ⟨rfl, Or.inr ⟨w.heap.size, 0, #[], rfl, Nat.le_refl _, heap_alloc_new w _, Nat.le_refl _, by unfold maxLen; omega, rfl, rfl⟩⟩
  obtain ⟨v', w', h1, h2, h3, _, _⟩ := run_append_own_at (P := Try.prog) (w.alloc (.cells #[] 5)) w.heap.size 51 t 5 i (.int .u8 0) 1 1 Try.underlying51 hi hz hs hb rfl (by omega) _ 0 [] hown0 ad n c (bytesOf z n) (by rw [bytesOf_len]; omega)
    (fun j u hu => by
      have hj : j < n := by have := (List.getElem?_eq_some_iff.1 hu).1; rwa [bytesOf_len] at this
      rw [bytesOf_at z n j hj] at hu
      injection hu with hu
      subst hu
      obtain ⟨ae, e, _, hc, _⟩ := R0 j hj
      injection e with e
      subst e
      exact hc)
    (bytesOf_one z n) (by unfold maxLen; omega) (by omega) hB0.size
  rw [Nat.zero_add, List.nil_append] at h2
  obtain ⟨g, cap, rfl, hg, hlt⟩ := h2.form hn
  rcases h2.2 with ⟨h, _⟩ | ⟨g', cap', cur, he, hg', hh, hnc, hcm, _, _⟩
  · cases h
  · injection he with e1 e2 e3
    subst e3
    refine ⟨g, cap, w', h1, hnc, hcm, fun k hk => ⟨_, rfl, hlt, ?_, ?_⟩, ⟨cur, by rw [Option.some.injEq, Addr.mk.injEq] at e1; rw [e1.1]; exact hh⟩, hB0.grown h3 hB0.size (fun j e => by simp [Value.ownBlock] at e; omega)⟩
    · exact h2.cells (g := g) rfl k _ (bytesOf_at z n k hk)
    · obtain ⟨_, _, _, _, hw⟩ := R k hk
      exact hw
set_option maxHeartbeats 1000000 in
theorem clone_any {w : World} (ad : Addr) (n c : Nat) (z : Nat → Int) (hn : 0 < n) (hm : n ≤ 140737488355328) (R : IRow w .u8 (some ad) n z) :
    Calls Try.prog 85 #[.slice (some ad) n c] w fun e w' => (∃ g cap, e = .returned (.slice (some ⟨g, 0, none⟩) n cap) ∧ n ≤ cap ∧ cap ≤ maxLen ∧ IRow w' .u8 (some ⟨g, 0, none⟩) n z ∧ ∃ C, Blk w' g 5 C) ∧ Below w.heap.size w w' := by
  have hnil := fun W => Lib.run_eql_slice_nil (P := Try.prog) W 51 5 (some ad) n c 0 0 Try.underlying51
  obtain ⟨g, cap, w', hrun, h1, h2, h3, h4, h5⟩ := clone_run (t := 51) (c := c) hn hm R
  have H3 := Lib.hid h3
  clear h3 R
  go_enter Try.func85, Try.ntmps85
  go_wp2_with (at_builtin; refine wpList_append_run rfl (.tmp 5) (.tmp 6) 51 rfl rfl rfl hrun ?_)
  go_ret
  exact ⟨⟨g, cap, rfl, h1, h2, H3.out, h4⟩, h5⟩
end Go.Proofs.Ytjknjlkjpccibaa
namespace Go.Proofs.Ytjknjlkjpccibaa
open Go.RowKit
set_option linter.unusedVariables false
/-- A slice of bytes, in blocks of bytes. -/
def SliceB (w : World) (v : Value) (n : Nat) (z : Nat → Int) : Prop := ∃ A cap, v = .slice A n cap ∧ n ≤ cap ∧ cap ≤ maxLen ∧ IRow w .u8 A n z ∧ Typed w A 5 ∧ (A = none → n = 0 ∧ cap = 0)
def CloneR (n : Nat) (z : Nat → Int) (w : World) (e : Ending) (w' : World) : Prop := ∃ v, e = .returned v ∧ SliceB w' v n z ∧ Below w.heap.size w w'
set_option maxRecDepth 100000 in
theorem clone_run0 {w : World} {ad : Addr} {c : Nat} {t : TypeId} :
    ∃ A cap w', (Builtin.append_ #[51, 51] t #[.slice (some ⟨w.heap.size, 0, none⟩) 0 0, .slice (some ad) 0 c]).run Try.prog (w.alloc (.cells #[] 5)) = .ok (.slice A 0 cap) w' ∧
      cap ≤ maxLen ∧ Typed w' A 5 ∧ Below w.heap.size w w' ∧ (A = none → cap = 0) := by
  obtain ⟨i, hi, hzz⟩ := Option.map_eq_some_iff.1 u8_info'
  simp only [Prod.mk.injEq] at hzz
  obtain ⟨hz, hs, hb⟩ := hzz
  have hB0 : Below w.heap.size w (w.alloc (.cells #[] 5)) := (Below.refl _ _).alloc (Nat.le_refl _) _
  have hown0 : (w.alloc (.cells #[] 5)).ownsRow w.heap.size 5 1 (.slice (some ⟨w.heap.size, 0, none⟩) 0 0) 0 [] :=
    ⟨rfl, Or.inr ⟨w.heap.size, 0, #[], rfl, Nat.le_refl _, heap_alloc_new w _, Nat.le_refl _, by unfold maxLen; omega, rfl, rfl⟩⟩
  obtain ⟨v', w', h1, h2, h3, _, _⟩ := run_append_own_at (P := Try.prog) (w.alloc (.cells #[] 5)) w.heap.size 51 t 5 i (.int .u8 0) 1 1 Try.underlying51 hi hz hs hb rfl (by omega) _ 0 [] hown0 ad 0 c [] rfl
    (fun j u hu => by simp at hu) (by simp) (by unfold maxLen; omega) (by omega) hB0.size
  rcases h2.2 with ⟨rfl, _⟩ | ⟨g', cap', cur, rfl, hg', hh, hnc, hcm, _, _⟩
  · exact ⟨none, 0, w', h1, by unfold maxLen; omega, Typed.none, hB0.grown h3 hB0.size (fun j e => by simp [Value.ownBlock] at e; omega), fun _ => rfl⟩
  · exact ⟨_, cap', w', h1, hcm, fun a x => by cases x; exact ⟨cur, hh⟩, hB0.grown h3 hB0.size (fun j e => by simp [Value.ownBlock] at e; omega), fun h => by cases h⟩
set_option maxHeartbeats 1000000 in
theorem sclone_zero {w : World} (ad : Addr) (c : Nat) (z : Nat → Int) :
    Calls Try.prog 85 #[.slice (some ad) 0 c] w (CloneR 0 z w) := by
  have hnil := fun W => Lib.run_eql_slice_nil (P := Try.prog) W 51 5 (some ad) 0 c 0 0 Try.underlying51
  obtain ⟨A, cap, w', hrun, h1, h2, h5, h6⟩ := clone_run0 (w := w) (ad := ad) (c := c) (t := 51)
  go_enter Try.func85, Try.ntmps85
  go_wp2_with (at_builtin; refine wpList_append_run rfl (.tmp 5) (.tmp 6) 51 rfl rfl rfl hrun ?_)
  go_ret
  exact ⟨_, rfl, ⟨A, cap, rfl, Nat.zero_le _, h1, fun i hi => absurd hi (by omega), h2, fun x => ⟨rfl, h6 x⟩⟩, h5⟩
theorem sclone_nil {w : World} (z : Nat → Int) :
    Calls Try.prog 85 #[.slice none 0 0] w (CloneR 0 z w) := by
  have hnil := fun W => Lib.run_eql_slice_nil (P := Try.prog) W 51 5 none 0 0 0 0 Try.underlying51
  go_enter Try.func85, Try.ntmps85
  go_wp2
  go_ret
  exact ⟨_, rfl, ⟨none, 0, rfl, Nat.zero_le _, by unfold maxLen; omega, fun i hi => absurd hi (by omega), Typed.none, fun _ => ⟨rfl, rfl⟩⟩, Below.refl _ _⟩
theorem sclone_any {w : World} (A : Option Addr) (n c : Nat) (z : Nat → Int) (hA : A = none → n = 0 ∧ c = 0) (hm : n ≤ 140737488355328) (R : IRow w .u8 A n z) :
    Calls Try.prog 85 #[.slice A n c] w (CloneR n z w) := by
  cases A with
  | none =>
    obtain ⟨rfl, rfl⟩ := hA rfl
    exact sclone_nil z
  | some ad =>
    rcases Nat.eq_zero_or_pos n with rfl | hn
    · exact sclone_zero ad c z
    · refine (clone_any ad n c z hn hm R).mono ?_
      rintro e w' ⟨⟨g, cap, rfl, h1, h2, h3, C, hC⟩, hb⟩
      exact ⟨_, rfl, ⟨some ⟨g, 0, none⟩, cap, rfl, h1, h2, h3, fun a x => by cases x; exact ⟨C, hC⟩, fun x => by cases x⟩, hb⟩
end Go.Proofs.Ytjknjlkjpccibaa
namespace Go.Proofs.Ytjknjlkjpccibaa
open Go.RowKit
set_option linter.unusedVariables false
/-- A feed of n bytes that are left, and how many were asked for; what is left stands in block cb. -/
def fcs (cb : Nat) (t : Int) : Array Value := #[.func (.func 86) #[] #[.pointer (some ⟨cb, 0, none⟩)], .int .i64 t]
def FD (w : World) (g cb n : Nat) (z : Nat → Int) (t : Int) : Prop :=
  Blk w g 100 (fcs cb t) ∧ ∃ v, Blk w cb 51 #[v] ∧ SliceB w v n z
theorem SliceB.kp {w w' : World} {v : Value} {n : Nat} {z : Nat → Int} {L : List Nat} (h : SliceB w v n z) (k : Kp L w w') (hL : ∀ x ∈ L, ∃ t cs, Blk w x t cs ∧ 5 ≠ t) : SliceB w' v n z := by
  obtain ⟨A, cap, e, h1, h2, h3, h4, h5⟩ := h
  exact ⟨A, cap, e, h1, h2, h3.kp k (h4.off hL), h4.kp k (h4.off hL), h5⟩
theorem FD.kp {w w' : World} {g cb n : Nat} {z : Nat → Int} {t : Int} {L : List Nat} (h : FD w g cb n z t) (k : Kp L w w') (hL : ∀ x ∈ L, ∃ t cs, Blk w x t cs ∧ 5 ≠ t) (h1 : g ∉ L) (h2 : cb ∉ L) : FD w' g cb n z t := by
  obtain ⟨hb, v, hc, hs⟩ := h
  exact ⟨hb.kp k h1, v, hc.kp k h2, hs.kp k hL⟩
theorem SliceB.keep {w w' : World} {v : Value} {n : Nat} {z : Nat → Int} (h : SliceB w v n z) (k : Below w.heap.size w w') : SliceB w' v n z :=
  h.kp (L := []) (Kp.of_below k) (fun x hx => by cases hx)
theorem FD.keep {w w' : World} {g cb n : Nat} {z : Nat → Int} {t : Int} (h : FD w g cb n z t) (k : Below w.heap.size w w') : FD w' g cb n z t :=
  h.kp (L := []) (Kp.of_below k) (fun x hx => by cases hx) (by simp) (by simp)
def GiverR (n : Nat) (z : Nat → Int) (w : World) (e : Ending) (w' : World) : Prop :=
  ∃ cb v, e = .returned (.func (.func 86) #[] #[.pointer (some ⟨cb, 0, none⟩)]) ∧ w.heap.size ≤ cb ∧ Blk w' cb 51 #[v] ∧ SliceB w' v n z ∧ Below w.heap.size w w'
set_option maxHeartbeats 1000000 in
theorem giver_any {w : World} (A : Option Addr) (n c : Nat) (z : Nat → Int) (hA : A = none → n = 0 ∧ c = 0) (hm : n ≤ 140737488355328) (R : IRow w .u8 A n z) :
    Calls Try.prog 75 #[.slice A n c] w (GiverR n z w) := by
  have hmf : ∀ (fn : Fn) (first cap : Array Value) (w : World), (Instr.makeFunc fn first cap).run Try.prog w = .ok (.func fn first cap) w := fun _ _ _ _ => rfl
  have RH := Lib.hid R
  have HA := Lib.hid hA
  clear R hA
  go_enter Try.func75, Try.ntmps75
  go_wp2_with fail
  refine (sclone_any A n c z HA.out hm RH.out).mono ?_
  rintro e w1 ⟨v, rfl, ⟨A', cap, rfl, hs⟩, hb⟩
  have HS : Hid (SliceB w1 (.slice A' n cap) n z) := Lib.hid ⟨A', cap, rfl, hs⟩
  clear hs
  have sz := hb.size
  go_wp2
  go_ret
  exact ⟨w1.heap.size, .slice A' n cap, rfl, sz, Blk.new w1 _ _, HS.out.keep ((Below.refl _ _).alloc (Nat.le_refl _) _), hb.alloc sz _⟩
def NewR (n : Nat) (z : Nat → Int) (w : World) (e : Ending) (w' : World) : Prop :=
  ∃ g cb, e = .returned (.pointer (some ⟨g, 0, none⟩)) ∧ w.heap.size ≤ g ∧ w.heap.size ≤ cb ∧ g < w'.heap.size ∧ cb < w'.heap.size ∧ FD w' g cb n z 0 ∧ Below w.heap.size w w'
set_option maxHeartbeats 1000000 in
theorem new_any {w : World} (A : Option Addr) (n c : Nat) (z : Nat → Int) (hA : A = none → n = 0 ∧ c = 0) (hm : n ≤ 140737488355328) (R : IRow w .u8 A n z) :
    Calls Try.prog 47 #[.slice A n c] w (NewR n z w) := by
  have RH := Lib.hid R
  have HA := Lib.hid hA
  clear R hA
  go_enter Try.func47, Try.ntmps47
  go_wp2_with fail
  refine (giver_any A n c z HA.out hm RH.out).mono ?_
  rintro e w1 ⟨cb, v, rfl, h1, h2, h3, hb⟩
  have H2 := Lib.hid h2
  have H3 := Lib.hid h3
  clear h2 h3
  have sz := hb.size
  go_wp2
  go_ret
  have k : Below w1.heap.size w1 (w1.alloc (.cells (fcs cb 0) 100)) := (Below.refl _ _).alloc (Nat.le_refl _) _
  have q := H2.out.lt
  exact ⟨w1.heap.size, cb, rfl, sz, h1, by simp, by simp; omega, ⟨Blk.new w1 _ _, v, H2.out.alloc _, H3.out.keep k⟩, hb.alloc sz _⟩
theorem slice_any (A : Option Addr) (n c e : Nat) (he : e ≤ n) (hc : n ≤ c) (W : World) : (Instr.slice 51 (.slice A n c) (some (.int .i64 (e : Int))) none none).run Try.prog W = .ok (.slice (if c = e then A else A.map (·.add e)) (n - e) (c - e)) W := by
  have hs : (sizeOf 5).run Try.prog W = .ok 1 W := by kernel_rfl
  have he' : Try.prog.elem 51 = 5 := by kernel_rfl
  rw [run_slice_l (P := Try.prog) W 51 A n c (by rw [he']; exact Try.underlying51) .i64 e (by omega) (by omega)]
  rw [he', hs]
  simp [Result.andThen, sliced]
theorem SliceB.from_ {w : World} {A : Option Addr} {n c e : Nat} {z : Nat → Int} (h : SliceB w (.slice A n c) n z) (he : e ≤ n) (hc : n ≤ c) : SliceB w (.slice (if c = e then A else A.map (·.add e)) (n - e) (c - e)) (n - e) (fun i => z (e + i)) := by
  obtain ⟨A', c', q, h1, h2, h3, h4, h5⟩ := h
  cases q
  refine ⟨_, _, rfl, by omega, by omega, h3.from_ he hc, h4.from_ e c, fun x => ?_⟩
  split at x
  · obtain ⟨rfl, rfl⟩ := h5 x; exact ⟨by omega, by omega⟩
  · cases A with
    | none => obtain ⟨rfl, rfl⟩ := h5 rfl; exact ⟨by omega, by omega⟩
    | some a => cases x
/-- What the function that gives answers: what is left behind k more, which is kept in its block. -/
def GaveR (n k cb : Nat) (z : Nat → Int) (w : World) (e : Ending) (w' : World) : Prop :=
  ∃ A cap, e = .returned (.slice A (n - k) cap) ∧ SliceB w' (.slice A (n - k) cap) (n - k) (fun i => z (k + i)) ∧ Blk w' cb 51 #[.slice A (n - k) cap] ∧ Kp [cb] w w'
set_option maxHeartbeats 1000000 in
theorem gives_any {w : World} {cb n k : Nat} {z : Nat → Int} {v : Value} (hb : Blk w cb 51 #[v]) (hs : SliceB w v n z) (hk : k ≤ 1) :
    Calls Try.prog 86 #[.int .i64 k, .pointer (some ⟨cb, 0, none⟩)] w (GaveR n k cb z w) := by
  obtain ⟨A, cap, rfl, h1, h2, h3⟩ := hs
  have HS : Hid (SliceB w (.slice A n cap) n z) := Lib.hid ⟨A, cap, rfl, h1, h2, h3⟩
  clear h3
  unfold maxLen at h2
  have c0 := hb.cell 0
  have cf := hb.frozen 0
  simp only [List.getElem?_toArray, List.getElem?_cons_zero] at c0
  have HB := Lib.hid hb
  clear hb
  rcases Nat.lt_or_ge n k with hlt | hge
  · have hsl := fun W => slice_any A n cap n (Nat.le_refl _) h1 W
    have hq := HS.out.from_ (e := n) (Nat.le_refl _) h1
    generalize (if cap = n then A else A.map (·.add n)) = A2 at *
    have HQ := Lib.hid hq
    clear hq
    have hlt' : (n : Int) < k := by omega
    go_enter Try.func86, Try.ntmps86
    go_wp2
    go_ret
    have hz : n - k = 0 := by omega
    have hz2 : n - n = 0 := by omega
    have kp : Kp [cb] w (w.setCell ⟨cb, 0, none⟩ (.slice A2 0 (cap - n))) := (Kp.refl _ _).setCell (.inl (by simp)) _
    have hb := HB.out
    have hn : ∀ x ∈ [cb], ∃ t cs, Blk w x t cs ∧ 5 ≠ t := fun x hx => by
      obtain rfl : x = cb := by simpa using hx
      exact ⟨_, _, hb, by decide⟩
    have q := HQ.out.kp kp hn
    rw [hz2] at q
    refine ⟨A2, cap - n, by rw [hz]; rfl, ?_, ?_, kp⟩
    · rw [hz]
      obtain ⟨A', c', e, p1, p2, p3, p4, p5⟩ := q
      exact ⟨A', c', e, p1, p2, fun i hi => absurd hi (by omega), p4, p5⟩
    · rw [hz]; exact hb.set_ 0 _
  · have hsl := fun W => slice_any A n cap k hge h1 W
    have hq := HS.out.from_ hge h1
    generalize (if cap = k then A else A.map (·.add k)) = A2 at *
    have HQ := Lib.hid hq
    clear hq
    have hge' : ¬ (n : Int) < k := by omega
    go_enter Try.func86, Try.ntmps86
    go_wp2
    go_ret
    have kp : Kp [cb] w (w.setCell ⟨cb, 0, none⟩ (.slice A2 (n - k) (cap - k))) := (Kp.refl _ _).setCell (.inl (by simp)) _
    have hb := HB.out
    have hn : ∀ x ∈ [cb], ∃ t cs, Blk w x t cs ∧ 5 ≠ t := fun x hx => by
      obtain rfl : x = cb := by simpa using hx
      exact ⟨_, _, hb, by decide⟩
    exact ⟨A2, cap - k, rfl, HQ.out.kp kp hn, hb.set_ 0 _, kp⟩
end Go.Proofs.Ytjknjlkjpccibaa
namespace Go.Proofs.Ytjknjlkjpccibaa
open Go.RowKit
set_option linter.unusedVariables false
def TookR (n k g cb : Nat) (z : Nat → Int) (t : Int) (w : World) (e : Ending) (w' : World) : Prop :=
  ∃ A cap, e = .returned (.slice A (n - k) cap) ∧ SliceB w' (.slice A (n - k) cap) (n - k) (fun i => z (k + i)) ∧ FD w' g cb (n - k) (fun i => z (k + i)) t ∧ Kp [cb] w w'
theorem run_eql_func (c : Array Value) (W : World) : (binOp .eql 98 (.func (.func 86) #[] c) .nilFunc).run Try.prog W = .ok (.bool false) W := by
  kernel_rfl
set_option maxRecDepth 100000 in
set_option maxHeartbeats 1000000 in
theorem take_any {w : World} {g cb n k : Nat} {z : Nat → Int} {t : Int} (h : FD w g cb n z t) (hk : k ≤ 1) :
    Calls Try.prog 82 #[.pointer (some ⟨g, 0, none⟩), .int .i64 k] w (TookR n k g cb z t w) := by
  obtain ⟨hg, v, hc, hs⟩ := h
  have c0 : w.cell? ⟨g, 0, none⟩ = some (.func (.func 86) #[] #[.pointer (some ⟨cb, 0, none⟩)]) := hg.cell 0
  have hfn := fun c W => run_eql_func c W
  have HG := Lib.hid hg
  have HC := Lib.hid hc
  have HS := Lib.hid hs
  clear hg hc hs
  go_enter Try.func82, Try.ntmps82
  go_wp2_with (go_at_call 86; refine (gives_any HC.out HS.out hk).mono ?_; rintro e w1 ⟨A, cap, rfl, h1, h2, h3⟩)
  go_ret
  have hg := HG.out
  have hne : g ∉ [cb] := by simpa using hg.ne_ HC.out (by decide)
  exact ⟨A, cap, rfl, h1, ⟨hg.kp h3 hne, _, h2, h1⟩, h3⟩
theorem took0 {n g cb : Nat} {z : Nat → Int} {t : Int} {w : World} {e : Ending} {w' : World} (h : TookR n 0 g cb z t w e w') :
    ∃ A cap, e = .returned (.slice A n cap) ∧ SliceB w' (.slice A n cap) n z ∧ FD w' g cb n z t ∧ Kp [cb] w w' := by
  obtain ⟨A, cap, h1, h2, h3, h4⟩ := h
  have e : (fun i => z (0 + i)) = z := by funext i; rw [Nat.zero_add]
  rw [e] at h2 h3
  exact ⟨A, cap, h1, h2, h3, h4⟩
theorem take0_any {w : World} {g cb n : Nat} {z : Nat → Int} {t : Int} (h : FD w g cb n z t) :
    Calls Try.prog 82 #[.pointer (some ⟨g, 0, none⟩), .int .i64 0] w fun e w' => ∃ A cap, e = .returned (.slice A n cap) ∧ SliceB w' (.slice A n cap) n z ∧ FD w' g cb n z t ∧ Kp [cb] w w' :=
  (take_any (k := 0) h (by omega)).mono fun _ _ h => took0 h
theorem take_nil (k : Int) (w : World) :
    Calls Try.prog 82 #[.pointer none, .int .i64 k] w fun e w' => e = .returned (.slice none 0 0) ∧ w = w' := by
  go_enter Try.func82, Try.ntmps82
  go_wp2
  go_ret
  exact ⟨rfl, rfl⟩
/-- The byte that comes so far behind the next one. -/
def peekI (n : Nat) (z : Nat → Int) (k : Int) : Int := if 0 ≤ k ∧ k < n then z k.toNat else 255
theorem peekI_no (n : Nat) (z : Nat → Int) (k : Int) (h : ¬ (0 ≤ k ∧ k < n)) : peekI n z k = 255 := by unfold peekI; rw [if_neg h]
theorem peekI_yes (n : Nat) (z : Nat → Int) (k : Nat) (h : k < n) : peekI n z k = z k := by unfold peekI; rw [if_pos (by omega)]; rfl
def FedR (v : Value) (g cb n : Nat) (z : Nat → Int) (t : Int) (L : List Nat) (w : World) (e : Ending) (w' : World) : Prop := e = .returned v ∧ FD w' g cb n z t ∧ Kp L w w'
set_option maxRecDepth 100000 in
set_option maxHeartbeats 1000000 in
theorem peek_any {w : World} {g cb n : Nat} {z : Nat → Int} {t k : Int} (h : FD w g cb n z t) :
    Calls Try.prog 81 #[.pointer (some ⟨g, 0, none⟩), .int .i64 k] w (FedR (.int .u8 (peekI n z k)) g cb n z t [cb] w) := by
  have H := Lib.hid h
  clear h
  by_cases h0 : k < 0
  · rw [peekI_no n z k (by omega)]
    go_enter Try.func81, Try.ntmps81
    go_wp2_with fail
    refine (take0_any H.out).mono ?_
    rintro e w1 ⟨A, cap, rfl, h1, h2, h3⟩
    have hl : n ≤ 9223372036854775807 := by obtain ⟨_, _, q, a, b, _⟩ := h1; unfold maxLen at b; omega
    have H1 := Lib.hid h1
    have HL := Lib.hid hl
    clear h1 hl
    go_wp2
    go_ret
    exact ⟨rfl, h2, h3⟩
  by_cases h1 : k < n
  · obtain ⟨j, rfl⟩ := Int.eq_ofNat_of_zero_le (by omega : 0 ≤ k)
    have hj : j < n := by omega
    rw [peekI_yes n z j hj]
    go_enter Try.func81, Try.ntmps81
    go_wp2_with fail
    refine (take0_any H.out).mono ?_
    rintro e w1 ⟨A, cap, rfl, q1, q2, q3⟩
    obtain ⟨_, _, q, a, b, R, _⟩ := q1
    cases q
    obtain ⟨ad, rfl, _, hc, _⟩ := R j hj
    have HQ := Lib.hid q2
    have HK := Lib.hid q3
    have HR := Lib.hid R
    clear q2 q3 R
    unfold maxLen at b
    go_wp2
    go_ret
    exact ⟨rfl, HQ.out, HK.out⟩
  · rw [peekI_no n z k (by omega)]
    go_enter Try.func81, Try.ntmps81
    go_wp2_with fail
    refine (take0_any H.out).mono ?_
    rintro e w1 ⟨A, cap, rfl, h1, h2, h3⟩
    have H1 := Lib.hid h1
    clear h1
    go_wp2
    go_ret
    exact ⟨rfl, h2, h3⟩
end Go.Proofs.Ytjknjlkjpccibaa
namespace Go.Proofs.Ytjknjlkjpccibaa
open Go.RowKit
set_option linter.unusedVariables false
set_option linter.unusedSimpArgs false
set_option maxRecDepth 100000
/-- The function that gives, over what is left in block cb. -/
def giveV (cb : Nat) : Value := .func (.func 86) #[] #[.pointer (some ⟨cb, 0, none⟩)]
/-- The cells of a feed, laid at place o. -/
def fdPut (cs : Array Value) (o cb : Nat) (t : Int) : Array Value := (cs.setIfInBounds o (giveV cb)).setIfInBounds (o + 1) (.int .i64 t)
section
variable {cs : Array Value} {o cb : Nat} {t : Int}
theorem fdPut_size : (fdPut cs o cb t).size = cs.size := by simp [fdPut]
theorem fdPut_at (i : Nat) (h : o + 2 ≤ cs.size) : (fdPut cs o cb t)[i]? = if i = o then some (giveV cb) else if i = o + 1 then some (.int .i64 t) else cs[i]? := by
  unfold fdPut
  simp only [Array.getElem?_setIfInBounds, Array.size_setIfInBounds]
  by_cases e0 : i = o
  · subst e0; simp; omega
  by_cases e1 : i = o + 1
  · subst e1; simp; omega
  rw [if_neg (by omega), if_neg (by omega), if_neg e0, if_neg e1]
theorem fdPut_t (h : o + 2 ≤ cs.size) (u : Int) : (fdPut cs o cb t).setIfInBounds (o + 1) (.int .i64 u) = fdPut cs o cb u := by
  apply Array.ext_getElem?
  intro i
  rw [Array.getElem?_setIfInBounds, fdPut_at i h, fdPut_at i h, fdPut_size]
  by_cases e : o + 1 = i
  · subst e; simp; omega
  · have e' : ¬ i = o + 1 := fun x => e x.symm
    rw [if_neg e]
    simp only [if_neg e']
theorem fdPut_far (h : o + 2 ≤ cs.size) (k : Nat) (hk : k ≠ o ∧ k ≠ o + 1) (v : Value) : (fdPut cs o cb t).setIfInBounds k v = fdPut (cs.setIfInBounds k v) o cb t := by
  apply Array.ext_getElem?
  intro i
  rw [Array.getElem?_setIfInBounds, fdPut_at i h, fdPut_at i (by rw [Array.size_setIfInBounds]; exact h), Array.getElem?_setIfInBounds, fdPut_size]
  by_cases e : k = i
  · subst e
    rw [if_pos rfl, if_neg hk.1, if_neg hk.2, if_pos rfl]
  · rw [if_neg e, if_neg e]
end
/-- At place o of block g, of a type T that is neither bytes nor a slice of them, whose other cells are those of cs, there is a feed. -/
def FP (w : World) (g : Nat) (T : TypeId) (cs : Array Value) (o cb n : Nat) (z : Nat → Int) (t : Int) : Prop :=
  Blk w g T (fdPut cs o cb t) ∧ (o + 2 ≤ cs.size ∧ 5 ≠ T ∧ T ≠ 51) ∧ ∃ v, Blk w cb 51 #[v] ∧ SliceB w v n z
section
variable {w w' : World} {g : Nat} {T : TypeId} {cs : Array Value} {o cb n : Nat} {z : Nat → Int} {t : Int}
theorem FP.lt (h : FP w g T cs o cb n z t) : g < w.heap.size := h.1.lt
theorem FP.ltc (h : FP w g T cs o cb n z t) : cb < w.heap.size := by obtain ⟨_, _, v, hc, _⟩ := h; exact hc.lt
theorem FP.ne (h : FP w g T cs o cb n z t) : g ≠ cb := by obtain ⟨hg, ⟨_, _, h3⟩, v, hc, _⟩ := h; exact hg.ne_ hc h3
theorem FP.cells (h : FP w g T cs o cb n z t) : w.cell? ⟨g, o, none⟩ = some (giveV cb) ∧ w.cell? ⟨g, o + 1, none⟩ = some (.int .i64 t) := by
  obtain ⟨hg, ⟨hs, _⟩, _⟩ := h
  refine ⟨?_, ?_⟩ <;> rw [hg.cell, fdPut_at _ hs] <;> simp
theorem FP.kp {L : List Nat} (h : FP w g T cs o cb n z t) (k : Kp L w w') (hL : ∀ x ∈ L, ∃ t cs, Blk w x t cs ∧ 5 ≠ t) (h1 : g ∉ L) (h2 : cb ∉ L) : FP w' g T cs o cb n z t := by
  obtain ⟨hg, hs, v, hc, hb⟩ := h
  exact ⟨hg.kp k h1, hs, v, hc.kp k h2, hb.kp k hL⟩
theorem FP.keep (h : FP w g T cs o cb n z t) (k : Below w.heap.size w w') : FP w' g T cs o cb n z t :=
  h.kp (L := []) (Kp.of_below k) (fun x hx => by cases hx) (by simp) (by simp)
/-- What else lies in its block is changed. -/
theorem FP.put (h : FP w g T cs o cb n z t) (k : Nat) (hk : k ≠ o ∧ k ≠ o + 1) (v : Value) : FP (w.setCell ⟨g, k, none⟩ v) g T (cs.setIfInBounds k v) o cb n z t ∧ Kp [g] w (w.setCell ⟨g, k, none⟩ v) := by
  have hne := h.ne
  obtain ⟨hg, ⟨hs, h2, h3⟩, u, hc, hb⟩ := h
  have kp : Kp [g] w (w.setCell ⟨g, k, none⟩ v) := (Kp.refl _ _).setCell (.inl (by simp)) _
  have hn : ∀ x ∈ [g], ∃ t cs, Blk w x t cs ∧ 5 ≠ t := fun x hx => by
    obtain rfl : x = g := by simpa using hx
    exact ⟨_, _, hg, h2⟩
  refine ⟨⟨?_, ⟨by rw [Array.size_setIfInBounds]; exact hs, h2, h3⟩, u, hc.kp kp (by simpa using hne.symm), hb.kp kp hn⟩, kp⟩
  rw [← fdPut_far hs k hk]
  exact hg.set_ k v
theorem FP.count (h : FP w g T cs o cb n z t) (u : Int) : FP (w.setCell ⟨g, o + 1, none⟩ (.int .i64 u)) g T cs o cb n z u ∧ Kp [g] w (w.setCell ⟨g, o + 1, none⟩ (.int .i64 u)) := by
  have hne := h.ne
  obtain ⟨hg, ⟨hs, h2, h3⟩, v, hc, hb⟩ := h
  have kp : Kp [g] w (w.setCell ⟨g, o + 1, none⟩ (.int .i64 u)) := (Kp.refl _ _).setCell (.inl (by simp)) _
  have hn : ∀ x ∈ [g], ∃ t cs, Blk w x t cs ∧ 5 ≠ t := fun x hx => by
    obtain rfl : x = g := by simpa using hx
    exact ⟨_, _, hg, h2⟩
  refine ⟨⟨?_, ⟨hs, h2, h3⟩, v, hc.kp kp (by simpa using hne.symm), hb.kp kp hn⟩, kp⟩
  rw [← fdPut_t hs]
  exact hg.set_ (o + 1) _
/-- A feed by itself. -/
theorem FP.of_fd (h : FD w g cb n z t) : FP w g 100 (Array.replicate 2 .nilFunc) 0 cb n z t := ⟨h.1, ⟨by decide, by decide, by decide⟩, h.2⟩
theorem FP.congr {n' : Nat} {z' : Nat → Int} {t' : Int} (h : FP w g T cs o cb n z t) (hn : n' = n) (hz : ∀ i, i < n' → z' i = z i) (ht : t' = t) : FP w g T cs o cb n' z' t' := by
  subst hn ht
  obtain ⟨a, b, v, c, A, cap, c1, c2, c3, c4, c5⟩ := h
  exact ⟨a, b, v, c, A, cap, c1, c2, c3, fun i hi => by rw [hz i hi]; exact c4 i hi, c5⟩
theorem peekI_byte {v : Value} (h : SliceB w v n z) (k : Int) : 0 ≤ peekI n z k ∧ peekI n z k ≤ 255 := by
  unfold peekI
  split
  · rename_i hk
    obtain ⟨_, _, _, _, _, R, _⟩ := h
    obtain ⟨_, _, _, _, hw⟩ := R k.toNat (by omega)
    exact bounds_u8 hw
  · omega
theorem FP.byte (h : FP w g T cs o cb n z t) (k : Int) : 0 ≤ peekI n z k ∧ peekI n z k ≤ 255 := by
  obtain ⟨_, _, v, _, hs⟩ := h
  exact peekI_byte hs k
end
section
variable {w : World} {g : Nat} {T : TypeId} {cs : Array Value} {o cb n : Nat} {z : Nat → Int} {t : Int}
def FPTookR (n k g : Nat) (T : TypeId) (cs : Array Value) (o cb : Nat) (z : Nat → Int) (t : Int) (w : World) (e : Ending) (w' : World) : Prop :=
  ∃ A cap, e = .returned (.slice A (n - k) cap) ∧ SliceB w' (.slice A (n - k) cap) (n - k) (fun i => z (k + i)) ∧ FP w' g T cs o cb (n - k) (fun i => z (k + i)) t ∧ Kp [cb] w w'
set_option maxHeartbeats 1000000 in
theorem fptake_any {k : Nat} (h : FP w g T cs o cb n z t) (hk : k ≤ 1) :
    Calls Try.prog 82 #[.pointer (some ⟨g, o, none⟩), .int .i64 k] w (FPTookR n k g T cs o cb z t w) := by
  have c0 := h.cells.1
  have hne := h.ne
  unfold giveV at c0
  obtain ⟨hg, hT, v, hc, hs⟩ := h
  have hfn := fun c W => run_eql_func c W
  have HG := Lib.hid hg
  have HC := Lib.hid hc
  have HS := Lib.hid hs
  have HT := Lib.hid hT
  have HN := Lib.hid hne
  clear hg hc hs hT hne
  go_enter Try.func82, Try.ntmps82
  go_wp2_with fail
  refine (gives_any HC.out HS.out hk).mono ?_
  rintro e w1 ⟨A, cap, rfl, h1, h2, h3⟩
  have H1 := Lib.hid h1
  have H2 := Lib.hid h2
  clear h1 h2
  go_wp2_with fail
  go_ret
  exact ⟨A, cap, rfl, H1.out, ⟨HG.out.kp h3 (by simpa using HN.out), HT.out, _, H2.out, H1.out⟩, h3⟩
theorem fptake0_any (h : FP w g T cs o cb n z t) :
    Calls Try.prog 82 #[.pointer (some ⟨g, o, none⟩), .int .i64 0] w fun e w' => ∃ A cap, e = .returned (.slice A n cap) ∧ SliceB w' (.slice A n cap) n z ∧ FP w' g T cs o cb n z t ∧ Kp [cb] w w' := by
  refine (fptake_any (k := 0) h (by omega)).mono ?_
  rintro e w' ⟨A, cap, h1, h2, h3, h4⟩
  have e : (fun i => z (0 + i)) = z := by funext i; rw [Nat.zero_add]
  rw [e] at h2 h3
  exact ⟨A, cap, h1, h2, h3, h4⟩
def FPR (v : Value) (g : Nat) (T : TypeId) (cs : Array Value) (o cb n : Nat) (z : Nat → Int) (t : Int) (L : List Nat) (w : World) (e : Ending) (w' : World) : Prop := e = .returned v ∧ FP w' g T cs o cb n z t ∧ Kp L w w'
set_option maxHeartbeats 1000000 in
theorem fppeek_any {k : Int} (h : FP w g T cs o cb n z t) :
    Calls Try.prog 81 #[.pointer (some ⟨g, o, none⟩), .int .i64 k] w (FPR (.int .u8 (peekI n z k)) g T cs o cb n z t [cb] w) := by
  have H := Lib.hid h
  clear h
  by_cases h0 : k < 0
  · rw [peekI_no n z k (by omega)]
    go_enter Try.func81, Try.ntmps81
    go_wp2_with fail
    refine (fptake0_any H.out).mono ?_
    rintro e w1 ⟨A, cap, rfl, h1, h2, h3⟩
    have hl : n ≤ 9223372036854775807 := by obtain ⟨_, _, q, a, b, _⟩ := h1; unfold maxLen at b; omega
    have H1 := Lib.hid h1
    have HL := Lib.hid hl
    clear h1 hl
    go_wp2
    go_ret
    exact ⟨rfl, h2, h3⟩
  by_cases h1 : k < n
  · obtain ⟨j, rfl⟩ := Int.eq_ofNat_of_zero_le (by omega : 0 ≤ k)
    have hj : j < n := by omega
    rw [peekI_yes n z j hj]
    go_enter Try.func81, Try.ntmps81
    go_wp2_with fail
    refine (fptake0_any H.out).mono ?_
    rintro e w1 ⟨A, cap, rfl, q1, q2, q3⟩
    obtain ⟨_, _, q, a, b, R, _⟩ := q1
    cases q
    obtain ⟨ad, rfl, _, hc, _⟩ := R j hj
    have HQ := Lib.hid q2
    have HK := Lib.hid q3
    have HR := Lib.hid R
    clear q2 q3 R
    unfold maxLen at b
    go_wp2
    go_ret
    exact ⟨rfl, HQ.out, HK.out⟩
  · rw [peekI_no n z k (by omega)]
    go_enter Try.func81, Try.ntmps81
    go_wp2_with fail
    refine (fptake0_any H.out).mono ?_
    rintro e w1 ⟨A, cap, rfl, h1, h2, h3⟩
    have H1 := Lib.hid h1
    clear h1
    go_wp2
    go_ret
    exact ⟨rfl, h2, h3⟩
theorem fptaken_any (h : FP w g T cs o cb n z t) :
    Calls Try.prog 63 #[.pointer (some ⟨g, o, none⟩)] w fun e w' => e = .returned (.int .i64 t) ∧ w = w' := by
  have c1 := h.cells.2
  clear h
  go_enter Try.func63, Try.ntmps63
  go_wp2
  go_ret
  exact ⟨rfl, rfl⟩
set_option maxHeartbeats 1000000 in
theorem fpnext_any (h : FP w g T cs o cb n z t) (h0 : 0 ≤ t) (h1 : t ≤ 1000000000) :
    Calls Try.prog 67 #[.pointer (some ⟨g, o, none⟩)] w (FPR (.int .u8 (peekI n z 0)) g T cs o cb (n - 1) (fun i => z (1 + i)) (t + 1) [g, cb] w) := by
  have H := Lib.hid h
  clear h
  obtain ⟨b, hb⟩ : ∃ b, peekI n z 0 = b := ⟨_, rfl⟩
  rw [hb]
  have HB := Lib.hid hb
  clear hb
  go_enter Try.func67, Try.ntmps67
  go_wp2_with fail
  refine (fppeek_any (k := 0) H.out).mono ?_
  rintro e w1 ⟨rfl, q1, q2⟩
  rw [HB.out]
  have Q1 := Lib.hid q1
  clear q1
  go_wp2_with fail
  refine (fptake_any (k := 1) Q1.out (by omega)).mono ?_
  rintro e w2 ⟨A, cap, rfl, _, r1, r2⟩
  have c1 := r1.cells.2
  have f1 := r1.1.frozen (o + 1)
  have R1 := Lib.hid r1
  clear r1
  go_wp2
  go_ret
  obtain ⟨s1, s2⟩ := R1.out.count (t + 1)
  refine ⟨rfl, s1, ((q2.mono ?_).trans (r2.mono (M := [g, cb]) ?_) ?_).trans (s2.mono (M := [g, cb]) ?_) ?_⟩ <;> simp
def FPCloneR (g : Nat) (T : TypeId) (cs : Array Value) (o cb n : Nat) (z : Nat → Int) (t : Int) (w : World) (e : Ending) (w' : World) : Prop :=
  ∃ g2 cb2, e = .returned (.pointer (some ⟨g2, 0, none⟩)) ∧ w.heap.size ≤ g2 ∧ w.heap.size ≤ cb2 ∧ FP w' g2 100 (Array.replicate 2 .nilFunc) 0 cb2 n z t ∧ FP w' g T cs o cb n z t ∧ Kp [cb] w w'
end
end Go.Proofs.Ytjknjlkjpccibaa
namespace Go.Proofs.Ytjknjlkjpccibaa
open Go.RowKit
set_option linter.unusedVariables false
set_option linter.unusedSimpArgs false
set_option maxRecDepth 100000
/-- Both lines, and which pad is asked. -/
structure Pt where
  l : Nat
  p : Nat
def Pt.ok (s : Pt) : Prop := s.l ≤ 3 ∧ s.p ≤ 5
def Pt.wr (s : Pt) (b : Int) : Pt :=
  if 2 ≤ (b % 4).toNat then ⟨(b % 4).toNat, 0⟩ else if (b % 4).toNat = 1 ∧ s.l % 2 = 0 then ⟨(b % 4).toNat, min (s.p + 1) 5⟩ else ⟨(b % 4).toNat, s.p⟩
theorem Pt.wr_ok {s : Pt} (h : s.ok) (b : Int) : (s.wr b).ok := by
  obtain ⟨a1, a2⟩ := h
  unfold Pt.wr
  repeat' split
  all_goals (refine ⟨?_, ?_⟩ <;> (try dsimp only) <;> omega)
/-- Does a read take a byte? -/
def Pt.takes (s : Pt) : Prop := ¬ (s.p = 5 ∨ 2 ≤ s.l)
instance (s : Pt) : Decidable s.takes := by unfold Pt.takes; infer_instance
/-- What is read, b being the next byte. -/
def Pt.val (s : Pt) (b : Int) : Int := if s.takes then 176 + (if s.l % 2 = 1 then b / 16 else b % 16) else 176
theorem lb0 {l : Nat} (h : l ≤ 3) : bitB (l : Int) 0 = decide (l % 2 = 1) := by
  rw [bit0_eq (by omega) (by omega)]
  congr 1
  apply propext
  omega
theorem lb1 {l : Nat} (h : l ≤ 3) : bitB (l : Int) 1 = decide (2 ≤ l) := by
  rw [bit1_eq (by omega) (by omega)]
  congr 1
  apply propext
  omega
theorem bit_v {b n : Int} {x : Bool} {w : World} (e : bitB b n = x) : Calls Try.prog 20 #[.int .u8 b, .int .i64 n] w fun e w' => e = .returned (.bool x) ∧ w = w' := e ▸ bit_any b n w
/-- What of a port isn't its feed, laid at place o. -/
def ptBase (cs : Array Value) (o : Nat) (s : Pt) : Array Value := (cs.setIfInBounds (o + 2) (.int .u8 s.l)).setIfInBounds (o + 3) (.int .i64 s.p)
section
variable {cs : Array Value} {o : Nat} {s : Pt}
theorem ptBase_size : (ptBase cs o s).size = cs.size := by simp [ptBase]
theorem ptBase_at (i : Nat) (h : o + 4 ≤ cs.size) : (ptBase cs o s)[i]? = if i = o + 2 then some (.int .u8 s.l) else if i = o + 3 then some (.int .i64 s.p) else cs[i]? := by
  unfold ptBase
  simp only [Array.getElem?_setIfInBounds, Array.size_setIfInBounds]
  by_cases e0 : i = o + 2
  · subst e0; simp; omega
  by_cases e1 : i = o + 3
  · subst e1; simp; omega
  rw [if_neg (by omega), if_neg (by omega), if_neg e0, if_neg e1]
theorem ptBase_l (h : o + 4 ≤ cs.size) (x : Nat) : (ptBase cs o s).setIfInBounds (o + 2) (.int .u8 x) = ptBase cs o ⟨x, s.p⟩ := by
  apply Array.ext_getElem?
  intro i
  rw [Array.getElem?_setIfInBounds, ptBase_at i h, ptBase_at i h, ptBase_size]
  by_cases e : o + 2 = i
  · subst e; simp; omega
  · have e' : ¬ i = o + 2 := fun x => e x.symm
    rw [if_neg e]
    simp only [if_neg e']
theorem ptBase_p (h : o + 4 ≤ cs.size) (x : Nat) : (ptBase cs o s).setIfInBounds (o + 3) (.int .i64 x) = ptBase cs o ⟨s.l, x⟩ := by
  apply Array.ext_getElem?
  intro i
  rw [Array.getElem?_setIfInBounds, ptBase_at i h, ptBase_at i h, ptBase_size]
  by_cases e : o + 3 = i
  · subst e; simp; omega
  · have e' : ¬ i = o + 3 := fun x => e x.symm
    rw [if_neg e]
    simp only [if_neg e']
end
/-- At place o of block g there is a port, whose feed has the bytes of z, n of them, q of which were asked for. -/
def PT (w : World) (g : Nat) (T : TypeId) (cs : Array Value) (o cb n : Nat) (z : Nat → Int) (q : Nat) (s : Pt) : Prop :=
  FP w g T (ptBase cs o s) o cb (n - q) (fun i => z (q + i)) q ∧ o + 4 ≤ cs.size ∧ s.ok
section
variable {w w' : World} {g : Nat} {T : TypeId} {cs : Array Value} {o cb n : Nat} {z : Nat → Int} {q : Nat} {s : Pt}
theorem PT.lt (h : PT w g T cs o cb n z q s) : g < w.heap.size := h.1.lt
theorem PT.ltc (h : PT w g T cs o cb n z q s) : cb < w.heap.size := h.1.ltc
theorem PT.ne (h : PT w g T cs o cb n z q s) : g ≠ cb := h.1.ne
theorem PT.cells (h : PT w g T cs o cb n z q s) : w.cell? ⟨g, o, none⟩ = some (giveV cb) ∧ w.cell? ⟨g, o + 1, none⟩ = some (.int .i64 q) ∧ w.cell? ⟨g, o + 2, none⟩ = some (.int .u8 s.l) ∧ w.cell? ⟨g, o + 3, none⟩ = some (.int .i64 s.p) := by
  obtain ⟨hf, hs, _⟩ := h
  obtain ⟨h0, h1⟩ := hf.cells
  refine ⟨h0, h1, ?_, ?_⟩ <;> rw [hf.1.cell, fdPut_at _ hf.2.1.1, if_neg (by omega), if_neg (by omega), ptBase_at _ hs] <;> simp
theorem PT.kp {L : List Nat} (h : PT w g T cs o cb n z q s) (k : Kp L w w') (hL : ∀ x ∈ L, ∃ t cs, Blk w x t cs ∧ 5 ≠ t) (h1 : g ∉ L) (h2 : cb ∉ L) : PT w' g T cs o cb n z q s := ⟨h.1.kp k hL h1 h2, h.2⟩
theorem PT.keep (h : PT w g T cs o cb n z q s) (k : Below w.heap.size w w') : PT w' g T cs o cb n z q s := ⟨h.1.keep k, h.2⟩
theorem PT.put_l (h : PT w g T cs o cb n z q s) (x : Nat) (hx : x ≤ 3) : PT (w.setCell ⟨g, o + 2, none⟩ (.int .u8 x)) g T cs o cb n z q ⟨x, s.p⟩ ∧ Kp [g] w (w.setCell ⟨g, o + 2, none⟩ (.int .u8 x)) := by
  obtain ⟨hf, hs, h1, h2⟩ := h
  obtain ⟨a, b⟩ := hf.put (o + 2) ⟨by omega, by omega⟩ (.int .u8 x)
  rw [ptBase_l hs] at a
  exact ⟨⟨a, hs, hx, h2⟩, b⟩
theorem PT.put_p (h : PT w g T cs o cb n z q s) (x : Nat) (hx : x ≤ 5) : PT (w.setCell ⟨g, o + 3, none⟩ (.int .i64 x)) g T cs o cb n z q ⟨s.l, x⟩ ∧ Kp [g] w (w.setCell ⟨g, o + 3, none⟩ (.int .i64 x)) := by
  obtain ⟨hf, hs, h1, h2⟩ := h
  obtain ⟨a, b⟩ := hf.put (o + 3) ⟨by omega, by omega⟩ (.int .i64 x)
  rw [ptBase_p hs] at a
  exact ⟨⟨a, hs, h1, hx⟩, b⟩
end
section
variable {w : World} {g : Nat} {T : TypeId} {cs : Array Value} {o cb n : Nat} {z : Nat → Int} {q : Nat} {s : Pt}
theorem pselect_any (h : PT w g T cs o cb n z q s) :
    Calls Try.prog 61 #[.pointer (some ⟨g, o, none⟩)] w fun e w' => e = .returned (.int .u8 s.l) ∧ w = w' := by
  obtain ⟨c0, c1, c2, c3⟩ := h.cells
  clear h
  go_enter Try.func61, Try.ntmps61
  go_wp2
  go_ret
  exact ⟨rfl, rfl⟩
theorem ptaken_any (h : PT w g T cs o cb n z q s) :
    Calls Try.prog 64 #[.pointer (some ⟨g, o, none⟩)] w fun e w' => e = .returned (.int .i64 q) ∧ w = w' := by
  have H := Lib.hid h.1
  clear h
  go_enter Try.func64, Try.ntmps64
  go_wp2_with fail
  refine (fptaken_any H.out).mono ?_
  rintro e w' ⟨rfl, rfl⟩
  go_wp2_with fail
  go_ret
  exact ⟨rfl, rfl⟩
/-- What a call on a port leaves. -/
def PtR (v : Value) (g : Nat) (T : TypeId) (cs : Array Value) (o cb n : Nat) (z : Nat → Int) (q : Nat) (s : Pt) (L : List Nat) (w : World) (e : Ending) (w' : World) : Prop := e = .returned v ∧ PT w' g T cs o cb n z q s ∧ Kp L w w'
theorem pwrite_any (h : PT w g T cs o cb n z q s) (b : Int) (b0 : 0 ≤ b) (b1 : b ≤ 255) :
    Calls Try.prog 51 #[.pointer (some ⟨g, o, none⟩), .int .u8 b] w (PtR (.tuple #[]) g T cs o cb n z q (s.wr b) [g] w) := by
  obtain ⟨c0, c1, c2, c3⟩ := h.cells
  have f2 := h.1.1.frozen (o + 2)
  have f3 := h.1.1.frozen (o + 3)
  obtain ⟨k1, k2⟩ := h.2.2
  have i1 : ((b % 4).toNat : Int) = b % 4 := by omega
  have B0 := Lib.hid (bit0_eq b0 b1)
  have B1 := Lib.hid (bit1_eq b0 b1)
  have L0 := Lib.hid (lb0 k1)
  have H := Lib.hid h
  clear h c0 c1
  by_cases h1 : b / 2 % 2 = 1
  · by_cases h0 : b % 2 = 1
    · by_cases hl : s.l % 2 = 1
      · have hw : s.wr b = ⟨(b % 4).toNat, 0⟩ := by
          unfold Pt.wr
          rw [if_pos (by omega)]
        rw [hw]
        clear hw
        go_enter Try.func51, Try.ntmps51
        go_wp2_with fail
        refine (bit_v (B0.out.trans (decide_eq_true h0))).mono ?_
        rintro e w' ⟨rfl, rfl⟩
        go_wp2_with fail
        refine (bit_v (L0.out.trans (decide_eq_true hl))).mono ?_
        rintro e w' ⟨rfl, rfl⟩
        go_wp2_with fail
        refine (bit_v (B1.out.trans (decide_eq_true h1))).mono ?_
        rintro e w' ⟨rfl, rfl⟩
        go_wp2_with fail
        first | go_end0 | refine bodyPost_ret (results_none rfl _ _ _) rfl ?_
        obtain ⟨p1, p2⟩ := H.out.put_l (b % 4).toNat (by omega)
        rw [i1] at p1 p2
        obtain ⟨q1, q2⟩ := p1.put_p 0 (by omega)
        exact ⟨rfl, q1, p2.trans q2 (by simp)⟩
      · have hw : s.wr b = ⟨(b % 4).toNat, 0⟩ := by
          unfold Pt.wr
          rw [if_pos (by omega)]
        rw [hw]
        clear hw
        go_enter Try.func51, Try.ntmps51
        go_wp2_with fail
        refine (bit_v (B0.out.trans (decide_eq_true h0))).mono ?_
        rintro e w' ⟨rfl, rfl⟩
        go_wp2_with fail
        refine (bit_v (L0.out.trans (decide_eq_false hl))).mono ?_
        rintro e w' ⟨rfl, rfl⟩
        go_wp2_with fail
        refine (bit_v (B1.out.trans (decide_eq_true h1))).mono ?_
        rintro e w' ⟨rfl, rfl⟩
        go_wp2_with fail
        first | go_end0 | refine bodyPost_ret (results_none rfl _ _ _) rfl ?_
        obtain ⟨p1, p2⟩ := H.out.put_l (b % 4).toNat (by omega)
        rw [i1] at p1 p2
        obtain ⟨q1, q2⟩ := p1.put_p 0 (by omega)
        exact ⟨rfl, q1, p2.trans q2 (by simp)⟩
    · have hw : s.wr b = ⟨(b % 4).toNat, 0⟩ := by
        unfold Pt.wr
        rw [if_pos (by omega)]
      rw [hw]
      clear hw
      go_enter Try.func51, Try.ntmps51
      go_wp2_with fail
      refine (bit_v (B0.out.trans (decide_eq_false h0))).mono ?_
      rintro e w' ⟨rfl, rfl⟩
      go_wp2_with fail
      refine (bit_v (B1.out.trans (decide_eq_true h1))).mono ?_
      rintro e w' ⟨rfl, rfl⟩
      go_wp2_with fail
      first | go_end0 | refine bodyPost_ret (results_none rfl _ _ _) rfl ?_
      obtain ⟨p1, p2⟩ := H.out.put_l (b % 4).toNat (by omega)
      rw [i1] at p1 p2
      obtain ⟨q1, q2⟩ := p1.put_p 0 (by omega)
      exact ⟨rfl, q1, p2.trans q2 (by simp)⟩
  · by_cases h0 : b % 2 = 1
    · by_cases hl : s.l % 2 = 1
      · have hw : s.wr b = ⟨(b % 4).toNat, s.p⟩ := by
          unfold Pt.wr
          rw [if_neg (by omega), if_neg (by omega)]
        rw [hw]
        clear hw
        go_enter Try.func51, Try.ntmps51
        go_wp2_with fail
        refine (bit_v (B0.out.trans (decide_eq_true h0))).mono ?_
        rintro e w' ⟨rfl, rfl⟩
        go_wp2_with fail
        refine (bit_v (L0.out.trans (decide_eq_true hl))).mono ?_
        rintro e w' ⟨rfl, rfl⟩
        go_wp2_with fail
        refine (bit_v (B1.out.trans (decide_eq_false h1))).mono ?_
        rintro e w' ⟨rfl, rfl⟩
        go_wp2_with fail
        first | go_end0 | refine bodyPost_ret (results_none rfl _ _ _) rfl ?_
        obtain ⟨p1, p2⟩ := H.out.put_l (b % 4).toNat (by omega)
        rw [i1] at p1 p2
        exact ⟨rfl, p1, p2⟩
      · have hw : s.wr b = ⟨(b % 4).toNat, min (s.p + 1) 5⟩ := by
          unfold Pt.wr
          rw [if_neg (by omega), if_pos (by omega)]
        rw [hw]
        clear hw
        obtain ⟨x, hx⟩ : ∃ x, min (s.p + 1) 5 = x := ⟨_, rfl⟩
        have eX : (if (5 : Int) < (s.p : Int) + 1 then 5 else (s.p : Int) + 1) = (x : Int) := by split <;> omega
        have hx5 : x ≤ 5 := by omega
        rw [hx]
        clear hx
        go_enter Try.func51, Try.ntmps51
        go_wp2_with fail
        refine (bit_v (B0.out.trans (decide_eq_true h0))).mono ?_
        rintro e w' ⟨rfl, rfl⟩
        go_wp2_with fail
        refine (bit_v (L0.out.trans (decide_eq_false hl))).mono ?_
        rintro e w' ⟨rfl, rfl⟩
        go_wp2_with fail
        refine (bit_v (B1.out.trans (decide_eq_false h1))).mono ?_
        rintro e w' ⟨rfl, rfl⟩
        go_wp2_with fail
        first | go_end0 | refine bodyPost_ret (results_none rfl _ _ _) rfl ?_
        obtain ⟨p1, p2⟩ := H.out.put_l (b % 4).toNat (by omega)
        rw [i1] at p1 p2
        obtain ⟨q1, q2⟩ := p1.put_p x hx5
        exact ⟨rfl, q1, p2.trans q2 (by simp)⟩
    · have hw : s.wr b = ⟨(b % 4).toNat, s.p⟩ := by
        unfold Pt.wr
        rw [if_neg (by omega), if_neg (by omega)]
      rw [hw]
      clear hw
      go_enter Try.func51, Try.ntmps51
      go_wp2_with fail
      refine (bit_v (B0.out.trans (decide_eq_false h0))).mono ?_
      rintro e w' ⟨rfl, rfl⟩
      go_wp2_with fail
      refine (bit_v (B1.out.trans (decide_eq_false h1))).mono ?_
      rintro e w' ⟨rfl, rfl⟩
      go_wp2_with fail
      first | go_end0 | refine bodyPost_ret (results_none rfl _ _ _) rfl ?_
      obtain ⟨p1, p2⟩ := H.out.put_l (b % 4).toNat (by omega)
      rw [i1] at p1 p2
      exact ⟨rfl, p1, p2⟩
/-- A half of the next byte. -/
theorem phigh_any (h : PT w g T cs o cb n z q s) (hq : q ≤ 1000000000) :
    Calls Try.prog 89 #[.pointer (some ⟨g, o, none⟩)] w (PtR (.int .u8 (peekI (n - q) (fun i => z (q + i)) 0 / 16)) g T cs o cb n z (q + 1) s [g, cb] w) := by
  obtain ⟨b0, b1⟩ := h.1.byte 0
  obtain ⟨b, hb⟩ : ∃ b, peekI (n - q) (fun i => z (q + i)) 0 = b := ⟨_, rfl⟩
  rw [hb] at b0 b1 ⊢
  have HB := Lib.hid hb
  have H := Lib.hid h
  clear h hb
  go_enter Try.func89, Try.ntmps89
  go_wp2_with fail
  refine (fpnext_any H.out.1 (by omega) (by omega)).mono ?_
  rw [HB.out]
  rintro e w1 ⟨rfl, q1, q2⟩
  have Q1 : Hid (PT w1 g T cs o cb n z (q + 1) s) := Lib.hid ⟨q1.congr (by omega) (fun i _ => by rw [Nat.add_assoc]) (by omega), H.out.2⟩
  clear q1
  go_wp2_with fail
  go_ret
  exact ⟨rfl, Q1.out, q2⟩
theorem plow_any (h : PT w g T cs o cb n z q s) (hq : q ≤ 1000000000) :
    Calls Try.prog 90 #[.pointer (some ⟨g, o, none⟩)] w (PtR (.int .u8 (peekI (n - q) (fun i => z (q + i)) 0 % 16)) g T cs o cb n z (q + 1) s [g, cb] w) := by
  obtain ⟨b0, b1⟩ := h.1.byte 0
  obtain ⟨b, hb⟩ : ∃ b, peekI (n - q) (fun i => z (q + i)) 0 = b := ⟨_, rfl⟩
  rw [hb] at b0 b1 ⊢
  have HB := Lib.hid hb
  have H := Lib.hid h
  clear h hb
  go_enter Try.func90, Try.ntmps90
  go_wp2_with fail
  refine (fpnext_any H.out.1 (by omega) (by omega)).mono ?_
  rw [HB.out]
  rintro e w1 ⟨rfl, q1, q2⟩
  have Q1 : Hid (PT w1 g T cs o cb n z (q + 1) s) := Lib.hid ⟨q1.congr (by omega) (fun i _ => by rw [Nat.add_assoc]) (by omega), H.out.2⟩
  clear q1
  go_wp2_with fail
  go_ret
  exact ⟨rfl, Q1.out, q2⟩
theorem phalf_any (h : PT w g T cs o cb n z q s) :
    Calls Try.prog 83 #[.pointer (some ⟨g, o, none⟩)] w fun e w' => e = .returned (.func (.func (if s.l % 2 = 1 then 89 else 90)) #[.pointer (some ⟨g, o, none⟩)] #[]) ∧ w = w' := by
  obtain ⟨c0, c1, c2, c3⟩ := h.cells
  obtain ⟨k1, k2⟩ := h.2.2
  have L0 := Lib.hid (lb0 k1)
  have hmf : ∀ (fn : Fn) (first cap : Array Value) (w : World), (Instr.makeFunc fn first cap).run Try.prog w = .ok (.func fn first cap) w := fun _ _ _ _ => rfl
  clear h c0 c1 c3
  by_cases hl : s.l % 2 = 1
  · rw [if_pos hl]
    go_enter Try.func83, Try.ntmps83
    go_wp2_with fail
    refine (bit_v (L0.out.trans (decide_eq_true hl))).mono ?_
    rintro e w' ⟨rfl, rfl⟩
    go_wp2_with fail
    go_ret
    exact ⟨rfl, rfl⟩
  · rw [if_neg hl]
    go_enter Try.func83, Try.ntmps83
    go_wp2_with fail
    refine (bit_v (L0.out.trans (decide_eq_false hl))).mono ?_
    rintro e w' ⟨rfl, rfl⟩
    go_wp2_with fail
    go_ret
    exact ⟨rfl, rfl⟩
set_option maxHeartbeats 1000000 in
theorem pread_any (h : PT w g T cs o cb n z q s) (hq : q ≤ 1000000000) :
    Calls Try.prog 69 #[.pointer (some ⟨g, o, none⟩)] w (PtR (.int .u8 (s.val (peekI (n - q) (fun i => z (q + i)) 0))) g T cs o cb n z (if s.takes then q + 1 else q) s [g, cb] w) := by
  obtain ⟨c0, c1, c2, c3⟩ := h.cells
  obtain ⟨k1, k2⟩ := h.2.2
  obtain ⟨b0, b1⟩ := h.1.byte 0
  have L1 := Lib.hid (lb1 k1)
  have H := Lib.hid h
  clear h c0 c1
  by_cases h5 : s.p = 5
  · have ht : ¬ s.takes := fun x => x (.inl h5)
    unfold Pt.val
    rw [if_neg ht, if_neg ht]
    rw [h5] at c3
    clear ht h5 k2
    go_enter Try.func69, Try.ntmps69
    go_wp2_with fail
    go_ret
    exact ⟨rfl, H.out, Kp.refl _ _⟩
  have n5 : ((s.p : Int) == 5) = false := by
    have : ¬ (s.p : Int) = 5 := by omega
    simpa using this
  by_cases h2 : 2 ≤ s.l
  · have ht : ¬ s.takes := fun x => x (.inr h2)
    unfold Pt.val
    rw [if_neg ht, if_neg ht]
    have hd := decide_eq_true h2
    clear ht
    go_enter Try.func69, Try.ntmps69
    go_wp2_with fail
    refine (bit_v (L1.out.trans (decide_eq_true h2))).mono ?_
    rintro e w' ⟨rfl, rfl⟩
    go_wp2_with fail
    go_ret
    exact ⟨rfl, H.out, Kp.refl _ _⟩
  · have ht : s.takes := fun x => by omega
    unfold Pt.val
    rw [if_pos ht, if_pos ht]
    obtain ⟨b, hb⟩ : ∃ b, peekI (n - q) (fun i => z (q + i)) 0 = b := ⟨_, rfl⟩
    rw [hb] at b0 b1 ⊢
    have HB := Lib.hid hb
    clear ht hb
    by_cases hl : s.l % 2 = 1
    · rw [if_pos hl]
      go_enter Try.func69, Try.ntmps69
      go_wp2_with fail
      refine (bit_v (L1.out.trans (decide_eq_false h2))).mono ?_
      rintro e w' ⟨rfl, rfl⟩
      go_wp2_with fail
      refine (phalf_any H.out).mono ?_
      rw [if_pos hl]
      rintro e w' ⟨rfl, rfl⟩
      go_wp2_with fail
      refine (phigh_any H.out hq).mono ?_
      rw [HB.out]
      rintro e w1 ⟨rfl, q1, q2⟩
      have Q1 := Lib.hid q1
      clear q1
      go_wp2_with fail
      go_ret
      exact ⟨rfl, Q1.out, q2⟩
    · rw [if_neg hl]
      go_enter Try.func69, Try.ntmps69
      go_wp2_with fail
      refine (bit_v (L1.out.trans (decide_eq_false h2))).mono ?_
      rintro e w' ⟨rfl, rfl⟩
      go_wp2_with fail
      refine (phalf_any H.out).mono ?_
      rw [if_neg hl]
      rintro e w' ⟨rfl, rfl⟩
      go_wp2_with fail
      refine (plow_any H.out hq).mono ?_
      rw [HB.out]
      rintro e w1 ⟨rfl, q1, q2⟩
      have Q1 := Lib.hid q1
      clear q1
      go_wp2_with fail
      go_ret
      exact ⟨rfl, Q1.out, q2⟩
end
end Go.Proofs.Ytjknjlkjpccibaa
namespace Go.Proofs.Ytjknjlkjpccibaa
open Go.RowKit
set_option linter.unusedVariables false
set_option linter.unusedSimpArgs false
set_option maxRecDepth 100000
/-- A port by itself. -/
def P0 (w : World) (g cb n : Nat) (z : Nat → Int) (q : Nat) (s : Pt) : Prop := PT w g 102 (Array.replicate 4 .nilFunc) 0 cb n z q s
def NewPR (n : Nat) (z : Nat → Int) (w : World) (e : Ending) (w' : World) : Prop :=
  ∃ g cb, e = .returned (.pointer (some ⟨g, 0, none⟩)) ∧ w.heap.size ≤ g ∧ w.heap.size ≤ cb ∧ P0 w' g cb n z 0 ⟨0, 0⟩ ∧ Below w.heap.size w w'
set_option maxHeartbeats 1000000 in
theorem pnew_any {w : World} (A : Option Addr) (n c : Nat) (z : Nat → Int) (hA : A = none → n = 0 ∧ c = 0) (hm : n ≤ 140737488355328) (R : IRow w .u8 A n z) :
    Calls Try.prog 46 #[.slice A n c] w (NewPR n z w) := by
  have HR := Lib.hid R
  have HA := Lib.hid hA
  clear R hA
  go_enter Try.func46, Try.ntmps46
  go_wp2_with fail
  refine (new_any A n c z HA.out hm HR.out).mono ?_
  rintro e w1 ⟨g1, cb, rfl, h1, h2, h3, h4, h5, h6⟩
  have c0 : w1.cell? ⟨g1, 0, none⟩ = some (giveV cb) := h5.1.cell 0
  have c1 : w1.cell? ⟨g1, 1, none⟩ = some (.int .i64 0) := h5.1.cell 1
  obtain ⟨_, v, hc, hs⟩ := h5
  have HC := Lib.hid hc
  have HS := Lib.hid hs
  unfold giveV at c0
  clear hc hs
  go_wp2
  go_ret
  have sz := h6.size
  have k : Below w1.heap.size w1 (w1.alloc (.cells #[giveV cb, .int .i64 0, .int .u8 0, .int .i64 0] 102)) := (Below.refl _ _).alloc (Nat.le_refl _) _
  have hf : FP (w1.alloc (.cells #[giveV cb, .int .i64 0, .int .u8 0, .int .i64 0] 102)) w1.heap.size 102 (ptBase (Array.replicate 4 .nilFunc) 0 ⟨0, 0⟩) 0 cb n z 0 :=
    ⟨Blk.new w1 _ _, ⟨by decide, by decide, by decide⟩, v, HC.out.alloc _, HS.out.keep k⟩
  exact ⟨w1.heap.size, cb, rfl, sz, h2, ⟨hf.congr (by omega) (fun i _ => by rw [Nat.zero_add]) (by rfl), by decide, ⟨by decide, by decide⟩⟩, h6.trans (k.mono sz)⟩
section
variable (w : World)
theorem pselect_nil : Calls Try.prog 61 #[.pointer none] w fun e w' => e = .returned (.int .u8 0) ∧ w = w' := by
  go_enter Try.func61, Try.ntmps61
  go_wp2
  go_ret
  exact ⟨rfl, rfl⟩
theorem ptaken_nil : Calls Try.prog 64 #[.pointer none] w fun e w' => e = .returned (.int .i64 0) ∧ w = w' := by
  go_enter Try.func64, Try.ntmps64
  go_wp2
  go_ret
  exact ⟨rfl, rfl⟩
theorem pread_nil : Calls Try.prog 69 #[.pointer none] w fun e w' => e = .returned (.int .u8 176) ∧ w = w' := by
  go_enter Try.func69, Try.ntmps69
  go_wp2
  go_ret
  exact ⟨rfl, rfl⟩
theorem pwrite_nil (b : Int) : Calls Try.prog 51 #[.pointer none, .int .u8 b] w fun e w' => e = .returned (.tuple #[]) ∧ w = w' := by
  go_enter Try.func51, Try.ntmps51
  go_wp2
  first | go_end0 | refine bodyPost_ret (results_none rfl _ _ _) rfl ?_
  exact ⟨rfl, rfl⟩
end
section
variable {w : World} {g : Nat} {T : TypeId} {cs : Array Value} {o cb n : Nat} {z : Nat → Int} {q : Nat} {s : Pt}
def PCloneR (g : Nat) (T : TypeId) (cs : Array Value) (o cb n : Nat) (z : Nat → Int) (q : Nat) (s : Pt) (w : World) (e : Ending) (w' : World) : Prop :=
  ∃ g2 cb2, e = .returned (.pointer (some ⟨g2, 0, none⟩)) ∧ w.heap.size ≤ g2 ∧ w.heap.size ≤ cb2 ∧ P0 w' g2 cb2 n z q s ∧ PT w' g T cs o cb n z q s ∧ Kp [cb] w w'
end
end Go.Proofs.Ytjknjlkjpccibaa
namespace Go.Proofs.Ytjknjlkjpccibaa
open Go.RowKit
set_option linter.unusedVariables false
/-- A buffer that has b. -/
def LT (w : World) (g : Nat) (b : Int) : Prop := Blk w g 95 #[.int .u8 b]
theorem LT.set {w : World} {g : Nat} {b : Int} (h : LT w g b) (u : Int) : LT (w.setCell ⟨g, 0, none⟩ (.int .u8 u)) g u := Blk.set_ h 0 _
/-- What is read: the bits of the mask are those of b, all others stay. -/
def mixI (v m b : Int) : Int := bits .or .u8 (bits .andNot .u8 v m) (bits .and .u8 b m)
theorem lnew_any (b : Int) (w : World) :
    Calls Try.prog 45 #[.int .u8 b] w fun e w' => e = .returned (.pointer (some ⟨w.heap.size, 0, none⟩)) ∧ w' = w.alloc (.cells #[.int .u8 b] 95) := by
  go_enter Try.func45, Try.ntmps45
  go_wp2
  go_ret
  exact ⟨rfl, rfl⟩
theorem value_nil (w : World) :
    Calls Try.prog 58 #[.pointer none] w fun e w' => e = .returned (.int .u8 0) ∧ w = w' := by
  go_enter Try.func58, Try.ntmps58
  go_wp2
  go_ret
  exact ⟨rfl, rfl⟩
theorem lwrite_any {w : World} {g : Nat} {b : Int} (h : LT w g b) (u : Int) :
    Calls Try.prog 52 #[.pointer (some ⟨g, 0, none⟩), .int .u8 u] w fun e w' => e = .returned (.tuple #[]) ∧ w' = w.setCell ⟨g, 0, none⟩ (.int .u8 u) := by
  have c0 : w.cell? ⟨g, 0, none⟩ = some (.int .u8 b) := Blk.cell h 0
  have f0 := Blk.frozen h 0
  clear h
  go_enter Try.func52, Try.ntmps52
  go_wp2
  go_end0
  exact ⟨rfl, rfl⟩
theorem lwrite_nil (u : Int) (w : World) :
    Calls Try.prog 52 #[.pointer none, .int .u8 u] w fun e w' => e = .returned (.tuple #[]) ∧ w = w' := by
  go_enter Try.func52, Try.ntmps52
  go_wp2
  go_end0
  exact ⟨rfl, rfl⟩
def LReadR (g : Nat) (v : Int) (w : World) (e : Ending) (w' : World) : Prop := e = .returned (.int .u8 v) ∧ LT w' g v ∧ Kp [g] w w'
theorem lread_nil (m b : Int) (w : World) :
    Calls Try.prog 68 #[.pointer none, .int .u8 m, .int .u8 b] w fun e w' => e = .returned (.int .u8 (mixI 0 m b)) ∧ w = w' := by
  go_enter Try.func68, Try.ntmps68
  go_wp2_with fail
  refine (value_nil _).mono ?_
  rintro e w' ⟨rfl, rfl⟩
  go_wp2_with fail
  refine (lwrite_nil _ _).mono ?_
  rintro e w' ⟨rfl, rfl⟩
  go_wp2
  go_ret
  exact ⟨rfl, rfl⟩
end Go.Proofs.Ytjknjlkjpccibaa
namespace Go.Proofs.Ytjknjlkjpccibaa
open Go.RowKit
set_option maxRecDepth 100000
theorem bv_of (b : Int) (h0 : 0 ≤ b) (h1 : b ≤ 255) : ∃ x : BitVec 8, b = (x.toNat : Int) := by
  obtain ⟨n, rfl⟩ := Int.eq_ofNat_of_zero_le h0
  exact ⟨BitVec.ofNat 8 n, by simp; omega⟩
theorem bv_bit_all : ∀ n : Nat, n < 256 → ∀ i : Nat, i < 8 → rbit (n : Int) (i : Int) = (BitVec.ofNat 8 n).getLsbD i := by decide +kernel
theorem bv_bit (x : BitVec 8) (i : Nat) (hi : i < 8) : rbit (x.toNat : Int) (i : Int) = x.getLsbD i := by
  rw [bv_bit_all x.toNat x.isLt i hi, BitVec.ofNat_toNat, BitVec.setWidth_eq]
theorem bv_all_all : ∀ n : Nat, n < 256 → ofTo [(BitVec.ofNat 8 n).getLsbD 0, (BitVec.ofNat 8 n).getLsbD 1, (BitVec.ofNat 8 n).getLsbD 2, (BitVec.ofNat 8 n).getLsbD 3, (BitVec.ofNat 8 n).getLsbD 4, (BitVec.ofNat 8 n).getLsbD 5, (BitVec.ofNat 8 n).getLsbD 6, (BitVec.ofNat 8 n).getLsbD 7] 8 = (n : Int) := by decide +kernel
theorem bv_all (x : BitVec 8) : ofTo [x.getLsbD 0, x.getLsbD 1, x.getLsbD 2, x.getLsbD 3, x.getLsbD 4, x.getLsbD 5, x.getLsbD 6, x.getLsbD 7] 8 = (x.toNat : Int) := by
  have h := bv_all_all x.toNat x.isLt
  rwa [BitVec.ofNat_toNat, BitVec.setWidth_eq] at h
theorem wrap_bv (x : BitVec 8) : IntKind.u8.wrap (x.toNat : Int) = (x.toNat : Int) := by
  rw [IntKind.wrap_u8]
  have := x.isLt
  omega
theorem ofInt_bv (x : BitVec 8) : BitVec.ofInt 8 (x.toNat : Int) = x := by
  apply BitVec.eq_of_toNat_eq
  rw [BitVec.toNat_ofInt]
  have := x.isLt
  omega
theorem mix_bv (v m b : BitVec 8) : mixI v.toNat m.toNat b.toNat = (((v &&& ~~~m) ||| (b &&& m)).toNat : Int) := by
  have e1 : bits .andNot .u8 (v.toNat : Int) (m.toNat : Int) = ((v &&& ~~~m).toNat : Int) := by
    show IntKind.u8.wrap (((BitVec.ofInt 8 (v.toNat : Int)) &&& ~~~(BitVec.ofInt 8 (m.toNat : Int))).toNat : Int) = _
    rw [ofInt_bv, ofInt_bv, wrap_bv]
  have e2 : bits .and .u8 (b.toNat : Int) (m.toNat : Int) = ((b &&& m).toNat : Int) := by
    show IntKind.u8.wrap (((BitVec.ofInt 8 (b.toNat : Int)) &&& (BitVec.ofInt 8 (m.toNat : Int))).toNat : Int) = _
    rw [ofInt_bv, ofInt_bv, wrap_bv]
  unfold mixI
  rw [e1, e2]
  show IntKind.u8.wrap (((BitVec.ofInt 8 ((v &&& ~~~m).toNat : Int)) ||| (BitVec.ofInt 8 ((b &&& m).toNat : Int))).toNat : Int) = _
  rw [ofInt_bv, ofInt_bv, wrap_bv]
theorem mix_byte (v m b : Int) (v0 : 0 ≤ v) (v1 : v ≤ 255) (m0 : 0 ≤ m) (m1 : m ≤ 255) (b0 : 0 ≤ b) (b1 : b ≤ 255) : 0 ≤ mixI v m b ∧ mixI v m b ≤ 255 := by
  obtain ⟨x, rfl⟩ := bv_of v v0 v1
  obtain ⟨y, rfl⟩ := bv_of m m0 m1
  obtain ⟨z, rfl⟩ := bv_of b b0 b1
  rw [mix_bv]
  have := ((x &&& ~~~y) ||| (z &&& y)).isLt
  omega
/-- Bit by bit: the mask's bits are those of b, all others stay. -/
theorem mix_bit (v m b : Int) (v0 : 0 ≤ v) (v1 : v ≤ 255) (m0 : 0 ≤ m) (m1 : m ≤ 255) (b0 : 0 ≤ b) (b1 : b ≤ 255) (i : Nat) (hi : i < 8) :
    rbit (mixI v m b) i = if rbit m i then rbit b i else rbit v i := by
  obtain ⟨x, rfl⟩ := bv_of v v0 v1
  obtain ⟨y, rfl⟩ := bv_of m m0 m1
  obtain ⟨z, rfl⟩ := bv_of b b0 b1
  rw [mix_bv, bv_bit _ i hi, bv_bit _ i hi, bv_bit _ i hi, bv_bit _ i hi, BitVec.getLsbD_or, BitVec.getLsbD_and, BitVec.getLsbD_and, BitVec.getLsbD_not]
  cases x.getLsbD i <;> cases y.getLsbD i <;> cases z.getLsbD i <;> simp [hi]
/-- Nothing driven: all stays. -/
theorem mix_zero (v b : Int) (v0 : 0 ≤ v) (v1 : v ≤ 255) (b0 : 0 ≤ b) (b1 : b ≤ 255) : mixI v 0 b = v := by
  obtain ⟨x, rfl⟩ := bv_of v v0 v1
  obtain ⟨z, rfl⟩ := bv_of b b0 b1
  have h := mix_bv x 0#8 z
  rw [show ((0#8).toNat : Int) = 0 from rfl] at h
  rw [h, show (x &&& ~~~0#8) ||| (z &&& 0#8) = x by rw [BitVec.and_zero, BitVec.or_zero, BitVec.not_zero, BitVec.and_allOnes]]
/-- A byte is what its bits make. -/
theorem of_bits (b : Int) (b0 : 0 ≤ b) (b1 : b ≤ 255) (f : Nat → Bool) (hf : ∀ i, i < 8 → f i = rbit b i) : ofTo [f 0, f 1, f 2, f 3, f 4, f 5, f 6, f 7] 8 = b := by
  obtain ⟨x, rfl⟩ := bv_of b b0 b1
  rw [hf 0 (by omega), hf 1 (by omega), hf 2 (by omega), hf 3 (by omega), hf 4 (by omega), hf 5 (by omega), hf 6 (by omega), hf 7 (by omega)]
  rw [bv_bit x 0 (by omega), bv_bit x 1 (by omega), bv_bit x 2 (by omega), bv_bit x 3 (by omega), bv_bit x 4 (by omega), bv_bit x 5 (by omega), bv_bit x 6 (by omega), bv_bit x 7 (by omega)]
  exact bv_all x
end Go.Proofs.Ytjknjlkjpccibaa
namespace Go.Proofs.Ytjknjlkjpccibaa
open Go.RowKit
set_option linter.unusedVariables false
set_option linter.unusedSimpArgs false
set_option maxRecDepth 100000
section
variable {w : World} {g o : Nat} {b : Int}
theorem pvalue_any (c0 : w.cell? ⟨g, o, none⟩ = some (.int .u8 b)) :
    Calls Try.prog 58 #[.pointer (some ⟨g, o, none⟩)] w fun e w' => e = .returned (.int .u8 b) ∧ w = w' := by
  go_enter Try.func58, Try.ntmps58
  go_wp2
  go_ret
  exact ⟨rfl, rfl⟩
theorem plwrite_any (c0 : w.cell? ⟨g, o, none⟩ = some (.int .u8 b)) (f0 : w.frozen? ⟨g, o, none⟩ = false) (u : Int) :
    Calls Try.prog 52 #[.pointer (some ⟨g, o, none⟩), .int .u8 u] w fun e w' => e = .returned (.tuple #[]) ∧ w' = w.setCell ⟨g, o, none⟩ (.int .u8 u) := by
  go_enter Try.func52, Try.ntmps52
  go_wp2
  go_end0
  exact ⟨rfl, rfl⟩
theorem plread_any (c0 : w.cell? ⟨g, o, none⟩ = some (.int .u8 b)) (f0 : w.frozen? ⟨g, o, none⟩ = false) (m u : Int) :
    Calls Try.prog 68 #[.pointer (some ⟨g, o, none⟩), .int .u8 m, .int .u8 u] w fun e w' => e = .returned (.int .u8 (mixI b m u)) ∧ w' = w.setCell ⟨g, o, none⟩ (.int .u8 (mixI b m u)) := by
  have C0 := Lib.hid c0
  have F0 := Lib.hid f0
  clear c0 f0
  go_enter Try.func68, Try.ntmps68
  go_wp2_with fail
  refine (pvalue_any C0.out).mono ?_
  rintro e w' ⟨rfl, rfl⟩
  go_wp2_with fail
  refine (plwrite_any C0.out F0.out _).mono ?_
  rintro e w' ⟨rfl, rfl⟩
  go_wp2
  go_ret
  exact ⟨rfl, rfl⟩
end
/-- What changes in a page. -/
structure Hp where
  tm : Tm
  s : Nat
  ro : Bool
  buf : Int
  q : Iq
  pt : Pt
  tp : Nat
  tv : Nat
  tc : Nat
  now : Int
/-- What doesn't: its edges, and the bytes of its feeds. -/
structure Hd where
  n : Nat
  es : Nat → Iib
  nv : Nat
  zv : Nat → Int
  nc : Nat
  zc : Nat → Int
  np : Nat
  zp : Nat → Int
/-- Where its feeds keep what is left. -/
structure Hb where
  v : Nat
  c : Nat
  p : Nat
def hpX (b : Hb) (x : Hp) : Nat → Value
  | 0 => .int .i64 x.tm.gone
  | 1 => .int .u8 x.tm.c
  | 2 => .int .u8 x.tm.r
  | 3 => .bool x.tm.on
  | 11 => .int .u8 x.buf
  | 12 => .int .u8 x.q.d
  | 13 => .bool x.q.due
  | 14 => giveV b.p
  | 15 => .int .i64 x.tp
  | 16 => .int .u8 x.pt.l
  | 17 => .int .i64 x.pt.p
  | 18 => giveV b.v
  | 19 => .int .i64 x.tv
  | 20 => giveV b.c
  | 21 => .int .i64 x.tc
  | _ => .int .i64 x.now
def hpC (d : Hd) (b : Hb) (A : Option Addr) (c : Nat) (x : Hp) : Array Value := hpL (hpX b x) A d.n c x.s (fun j => upTo d.es x.s j) x.ro
theorem hpC_size (d : Hd) (b : Hb) (A : Option Addr) (c : Nat) (x : Hp) : (hpC d b A c x).size = 23 := rfl
/-- What of a feed is left. -/
def Box (w : World) (cb n : Nat) (z : Nat → Int) : Prop := ∃ v, Blk w cb 51 #[v] ∧ SliceB w v n z
theorem Box.kp {w w' : World} {cb n : Nat} {z : Nat → Int} {L : List Nat} (h : Box w cb n z) (k : Kp L w w') (hL : ∀ x ∈ L, ∃ t cs, Blk w x t cs ∧ 5 ≠ t) (h2 : cb ∉ L) : Box w' cb n z := by
  obtain ⟨v, hc, hb⟩ := h
  exact ⟨v, hc.kp k h2, hb.kp k hL⟩
def Hp.ok (x : Hp) (d : Hd) : Prop := x.tm.ok ∧ x.s ≤ d.n ∧ (0 ≤ x.buf ∧ x.buf ≤ 255) ∧ x.q.d ≤ 7 ∧ x.pt.ok ∧ 0 ≤ x.now
/-- What a page has beside its own block. -/
structure HPo (w : World) (d : Hd) (b : Hb) (A : Option Addr) (c : Nat) (x : Hp) : Prop where
  e : EOwn w A d.n c d.es
  v : Box w b.v (d.nv - x.tv) (fun i => d.zv (x.tv + i))
  c : Box w b.c (d.nc - x.tc) (fun i => d.zc (x.tc + i))
  p : Box w b.p (d.np - x.tp) (fun i => d.zp (x.tp + i))
  ne : b.v ≠ b.c ∧ b.v ≠ b.p ∧ b.c ≠ b.p
  ok : x.ok d
  gd : Good d.n d.es
/-- A page at g. -/
def HP (w : World) (g : Nat) (d : Hd) (b : Hb) (x : Hp) : Prop := ∃ A c, Blk w g 108 (hpC d b A c x) ∧ HPo w d b A c x
section
variable {w w' : World} {g : Nat} {d : Hd} {b : Hb} {x y : Hp} {L : List Nat} {A : Option Addr} {c : Nat}
theorem hp_off (hb : Blk w g 108 (hpC d b A c x)) (h : HPo w d b A c x) (hL : ∀ y ∈ L, y = g ∨ y = b.v ∨ y = b.c ∨ y = b.p) :
    (∀ y ∈ L, ∃ t cs, Blk w y t cs ∧ 5 ≠ t) ∧ (∀ y ∈ L, ∃ t cs, Blk w y t cs ∧ 69 ≠ t) := by
  refine ⟨fun y hy => ?_, fun y hy => ?_⟩
  all_goals
    rcases hL y hy with rfl | rfl | rfl | rfl
    · exact ⟨_, _, hb, by decide⟩
    · obtain ⟨v, h1, _⟩ := h.v; exact ⟨_, _, h1, by decide⟩
    · obtain ⟨v, h1, _⟩ := h.c; exact ⟨_, _, h1, by decide⟩
    · obtain ⟨v, h1, _⟩ := h.p; exact ⟨_, _, h1, by decide⟩
theorem hp_ne (hb : Blk w g 108 (hpC d b A c x)) (h : HPo w d b A c x) : g ≠ b.v ∧ g ≠ b.c ∧ g ≠ b.p := by
  obtain ⟨v1, h1, _⟩ := h.v
  obtain ⟨v2, h2, _⟩ := h.c
  obtain ⟨v3, h3, _⟩ := h.p
  exact ⟨hb.ne_ h1 (by decide), hb.ne_ h2 (by decide), hb.ne_ h3 (by decide)⟩
theorem HP.ne (h : HP w g d b x) : g ≠ b.v ∧ g ≠ b.c ∧ g ≠ b.p := by
  obtain ⟨A, c, hb, ho⟩ := h
  exact hp_ne hb ho
theorem HP.lt (h : HP w g d b x) : g < w.heap.size ∧ b.v < w.heap.size ∧ b.c < w.heap.size ∧ b.p < w.heap.size := by
  obtain ⟨A, c, hb, ho⟩ := h
  obtain ⟨v1, h1, _⟩ := ho.v
  obtain ⟨v2, h2, _⟩ := ho.c
  obtain ⟨v3, h3, _⟩ := ho.p
  exact ⟨hb.lt, h1.lt, h2.lt, h3.lt⟩
theorem HP.ok (h : HP w g d b x) : x.ok d := by
  obtain ⟨A, c, hb, ho⟩ := h
  exact ho.ok
theorem HP.gd (h : HP w g d b x) : Good d.n d.es := by
  obtain ⟨A, c, hb, ho⟩ := h
  exact ho.gd
/-- What happens elsewhere doesn't matter. -/
theorem HP.kp (h : HP w g d b x) (k : Kp L w w') (hL : ∀ y ∈ L, ∃ t cs, Blk w y t cs ∧ 5 ≠ t ∧ 69 ≠ t) (hn : g ∉ L ∧ b.v ∉ L ∧ b.c ∉ L ∧ b.p ∉ L) : HP w' g d b x := by
  obtain ⟨A, c, hb, ho⟩ := h
  have h8 : ∀ y ∈ L, ∃ t cs, Blk w y t cs ∧ 5 ≠ t := fun y hy => by obtain ⟨t, cs, h1, h2, _⟩ := hL y hy; exact ⟨t, cs, h1, h2⟩
  have hE : ∀ y ∈ L, ∃ t cs, Blk w y t cs ∧ 69 ≠ t := fun y hy => by obtain ⟨t, cs, h1, _, h2⟩ := hL y hy; exact ⟨t, cs, h1, h2⟩
  exact ⟨A, c, hb.kp k hn.1, ho.e.kp k hE, ho.v.kp k h8 hn.2.1, ho.c.kp k h8 hn.2.2.1, ho.p.kp k h8 hn.2.2.2, ho.ne, ho.ok, ho.gd⟩
theorem HP.keep (h : HP w g d b x) (k : Below w.heap.size w w') : HP w' g d b x :=
  h.kp (L := []) (Kp.of_below k) (fun x hx => by cases hx) (by simp)
theorem HP.kp0 (h : HP w g d b x) (k : Kp [] w w') : HP w' g d b x := h.kp k (fun x hx => by cases hx) (by simp)
/-- What is changed in its own block alone. -/
theorem hp_own (hb : Blk w g 108 (hpC d b A c x)) (h : HPo w d b A c x) (k : Kp [g] w w') (hb' : Blk w' g 108 (hpC d b A c y)) (e1 : y.tv = x.tv) (e2 : y.tc = x.tc) (e3 : y.tp = x.tp) (hok : y.ok d) : HP w' g d b y := by
  obtain ⟨h8, hE⟩ := hp_off (L := [g]) hb h (by simp)
  obtain ⟨n1, n2, n3⟩ := hp_ne hb h
  refine ⟨A, c, hb', h.e.kp k hE, ?_, ?_, ?_, h.ne, hok, h.gd⟩
  · rw [e1]; exact h.v.kp k h8 (by simpa using n1.symm)
  · rw [e2]; exact h.c.kp k h8 (by simpa using n2.symm)
  · rw [e3]; exact h.p.kp k h8 (by simpa using n3.symm)
/-- The timer. -/
theorem HP.tmr (h : HP w g d b x) : ∃ cs, TM w g 108 cs 0 x.tm ∧ ∀ w' s, TM w' g 108 cs 0 s → Kp [g] w w' → HP w' g d b { x with tm := s } := by
  obtain ⟨A, c, hb, ho⟩ := h
  refine ⟨hpC d b A c x, ⟨hb, (by first | (rw [hpC_size]; decide) | (rw [ptBase_size, hpC_size]; decide)), ho.ok.1⟩, fun w' s h' k => ?_⟩
  exact hp_own (y := { x with tm := s }) hb ho k h'.1 rfl rfl rfl ⟨h'.2.2, ho.ok.2⟩
/-- The controller. -/
theorem HP.irq (h : HP w g d b x) : ∃ cs, IQ w g 108 cs 12 x.q ∧ ∀ w' s, IQ w' g 108 cs 12 s → Kp [g] w w' → HP w' g d b { x with q := s } := by
  obtain ⟨A, c, hb, ho⟩ := h
  refine ⟨hpC d b A c x, ⟨hb, (by first | (rw [hpC_size]; decide) | (rw [ptBase_size, hpC_size]; decide)), ho.ok.2.2.2.1⟩, fun w' s h' k => ?_⟩
  exact hp_own (y := { x with q := s }) hb ho k h'.1 rfl rfl rfl ⟨ho.ok.1, ho.ok.2.1, ho.ok.2.2.1, h'.2.2, ho.ok.2.2.2.2⟩
/-- The lines. -/
theorem HP.lns (h : HP w g d b x) : LNH (hpX b x) w g d.n d.es x.s x.ro ∧ ∀ w' s r, LNH (hpX b x) w' g d.n d.es s r → Kp [g] w w' → HP w' g d b { x with s := s, ro := r } := by
  obtain ⟨A, c, hb, ho⟩ := h
  refine ⟨⟨ho.ok.2.1, A, c, hb, ho.e⟩, fun w' s r h' k => ?_⟩
  obtain ⟨h1, A', c', hb', he'⟩ := h'
  obtain ⟨h8, hE⟩ := hp_off (L := [g]) hb ho (by simp)
  obtain ⟨n1, n2, n3⟩ := hp_ne hb ho
  exact ⟨A', c', hb', he', ho.v.kp k h8 (by simpa using n1.symm), ho.c.kp k h8 (by simpa using n2.symm), ho.p.kp k h8 (by simpa using n3.symm), ho.ne, ⟨ho.ok.1, h1, ho.ok.2.2⟩, ho.gd⟩
/-- The buffer. -/
theorem HP.lat (h : HP w g d b x) : w.cell? ⟨g, 11, none⟩ = some (.int .u8 x.buf) ∧ w.frozen? ⟨g, 11, none⟩ = false ∧ ∀ u, 0 ≤ u → u ≤ 255 → HP (w.setCell ⟨g, 11, none⟩ (.int .u8 u)) g d b { x with buf := u } ∧ Kp [g] w (w.setCell ⟨g, 11, none⟩ (.int .u8 u)) := by
  obtain ⟨A, c, hb, ho⟩ := h
  refine ⟨hb.cell 11, hb.frozen 11, fun u h0 h1 => ?_⟩
  have k : Kp [g] w (w.setCell ⟨g, 11, none⟩ (.int .u8 u)) := (Kp.refl _ _).setCell (.inl (by simp)) _
  exact ⟨hp_own (y := { x with buf := u }) hb ho k (hb.set_ 11 _) rfl rfl rfl ⟨ho.ok.1, ho.ok.2.1, ⟨h0, h1⟩, ho.ok.2.2.2⟩, k⟩
/-- How far it went. -/
theorem HP.nw (h : HP w g d b x) : w.cell? ⟨g, 22, none⟩ = some (.int .i64 x.now) ∧ w.frozen? ⟨g, 22, none⟩ = false ∧ ∀ u, 0 ≤ u → HP (w.setCell ⟨g, 22, none⟩ (.int .i64 u)) g d b { x with now := u } ∧ Kp [g] w (w.setCell ⟨g, 22, none⟩ (.int .i64 u)) := by
  obtain ⟨A, c, hb, ho⟩ := h
  refine ⟨hb.cell 22, hb.frozen 22, fun u h0 => ?_⟩
  have k : Kp [g] w (w.setCell ⟨g, 22, none⟩ (.int .i64 u)) := (Kp.refl _ _).setCell (.inl (by simp)) _
  exact ⟨hp_own (y := { x with now := u }) hb ho k (hb.set_ 22 _) rfl rfl rfl ⟨ho.ok.1, ho.ok.2.1, ho.ok.2.2.1, ho.ok.2.2.2.1, ho.ok.2.2.2.2.1, h0⟩, k⟩
/-- The port. -/
theorem HP.prt (h : HP w g d b x) : ∃ cs, PT w g 108 cs 14 b.p d.np d.zp x.tp x.pt ∧ ∀ w' s t L, PT w' g 108 cs 14 b.p d.np d.zp t s → Kp L w w' → (∀ y ∈ L, y = g ∨ y = b.p) → HP w' g d b { x with pt := s, tp := t } := by
  obtain ⟨A, c, hb, ho⟩ := h
  refine ⟨hpC d b A c x, ⟨⟨hb, ⟨(by first | (rw [hpC_size]; decide) | (rw [ptBase_size, hpC_size]; decide)), by decide, by decide⟩, ho.p⟩, (by first | (rw [hpC_size]; decide) | (rw [ptBase_size, hpC_size]; decide)), ho.ok.2.2.2.2.1⟩, fun w' s t L h' k hL => ?_⟩
  obtain ⟨⟨h1, _, h3⟩, _, h4⟩ := h'
  obtain ⟨h8, hE⟩ := hp_off (L := L) hb ho (fun y hy => (hL y hy).elim .inl (fun e => .inr (.inr (.inr e))))
  obtain ⟨n1, n2, n3⟩ := hp_ne hb ho
  obtain ⟨m1, m2, m3⟩ := ho.ne
  exact ⟨A, c, h1, ho.e.kp k hE, ho.v.kp k h8 (fun e => (hL _ e).elim n1.symm m2), ho.c.kp k h8 (fun e => (hL _ e).elim n2.symm m3), h3, ho.ne, ⟨ho.ok.1, ho.ok.2.1, ho.ok.2.2.1, ho.ok.2.2.2.1, h4, ho.ok.2.2.2.2.2⟩, ho.gd⟩
/-- The feed of VDC. -/
theorem HP.fdv (h : HP w g d b x) : ∃ cs, FP w g 108 cs 18 b.v (d.nv - x.tv) (fun i => d.zv (x.tv + i)) x.tv ∧ ∀ w' t L, FP w' g 108 cs 18 b.v (d.nv - t) (fun i => d.zv (t + i)) (t : Nat) → Kp L w w' → (∀ y ∈ L, y = g ∨ y = b.v) → HP w' g d b { x with tv := t } := by
  obtain ⟨A, c, hb, ho⟩ := h
  refine ⟨hpC d b A c x, ⟨hb, ⟨(by first | (rw [hpC_size]; decide) | (rw [ptBase_size, hpC_size]; decide)), by decide, by decide⟩, ho.v⟩, fun w' t L h' k hL => ?_⟩
  obtain ⟨h1, _, h3⟩ := h'
  obtain ⟨h8, hE⟩ := hp_off (L := L) hb ho (fun y hy => (hL y hy).elim .inl (fun e => .inr (.inl e)))
  obtain ⟨n1, n2, n3⟩ := hp_ne hb ho
  obtain ⟨m1, m2, m3⟩ := ho.ne
  exact ⟨A, c, h1, ho.e.kp k hE, h3, ho.c.kp k h8 (fun e => (hL _ e).elim n2.symm (fun e => m1 e.symm)), ho.p.kp k h8 (fun e => (hL _ e).elim n3.symm (fun e => m2 e.symm)), ho.ne, ho.ok, ho.gd⟩
/-- The feed of VCE. -/
theorem HP.fdc (h : HP w g d b x) : ∃ cs, FP w g 108 cs 20 b.c (d.nc - x.tc) (fun i => d.zc (x.tc + i)) x.tc ∧ ∀ w' t L, FP w' g 108 cs 20 b.c (d.nc - t) (fun i => d.zc (t + i)) (t : Nat) → Kp L w w' → (∀ y ∈ L, y = g ∨ y = b.c) → HP w' g d b { x with tc := t } := by
  obtain ⟨A, c, hb, ho⟩ := h
  refine ⟨hpC d b A c x, ⟨hb, ⟨(by first | (rw [hpC_size]; decide) | (rw [ptBase_size, hpC_size]; decide)), by decide, by decide⟩, ho.c⟩, fun w' t L h' k hL => ?_⟩
  obtain ⟨h1, _, h3⟩ := h'
  obtain ⟨h8, hE⟩ := hp_off (L := L) hb ho (fun y hy => (hL y hy).elim .inl (fun e => .inr (.inr (.inl e))))
  obtain ⟨n1, n2, n3⟩ := hp_ne hb ho
  obtain ⟨m1, m2, m3⟩ := ho.ne
  exact ⟨A, c, h1, ho.e.kp k hE, ho.v.kp k h8 (fun e => (hL _ e).elim n1.symm m1), h3, ho.p.kp k h8 (fun e => (hL _ e).elim n3.symm (fun e => m3 e.symm)), ho.ne, ho.ok, ho.gd⟩
end
end Go.Proofs.Ytjknjlkjpccibaa
namespace Go.Proofs.Ytjknjlkjpccibaa
open Go.RowKit
set_option linter.unusedVariables false
set_option maxRecDepth 100000
def longB (a b c : Nat) : Bool := decide (10000 < a ∨ 10000 < b ∨ 10000 < c)
set_option maxHeartbeats 1000000 in
theorem anyLong_any {w : World} {g : Nat} (A B C : Option Addr) (a b c ca cb cc : Nat) (ha : a ≤ 140737488355328) (hb : b ≤ 140737488355328) (hc : c ≤ 140737488355328)
    (h : Blk w g 51 #[.slice A a ca, .slice B b cb, .slice C c cc]) :
    Calls Try.prog 73 #[.slice (some ⟨g, 0, none⟩) 3 3] w fun e w' => e = .returned (.bool (longB a b c)) ∧ w = w' := by
  have c0 : w.cell? ⟨g, 0, none⟩ = some (.slice A a ca) := h.cell 0
  have c1 : w.cell? ⟨g, 1, none⟩ = some (.slice B b cb) := h.cell 1
  have c2 : w.cell? ⟨g, 2, none⟩ = some (.slice C c cc) := h.cell 2
  clear h
  by_cases h1 : 10000 < a
  · have e : longB a b c = true := by unfold longB; simp [h1]
    rw [e]
    have h1' : (10000 : Int) < a := by omega
    go_enter Try.func73, Try.ntmps73
    go_wp2
    refine wp_loop_rounds 1 ?_
    rw [rounds_succ]
    go_wp2
    go_ret
    exact ⟨rfl, rfl⟩
  by_cases h2 : 10000 < b
  · have e : longB a b c = true := by unfold longB; simp [h2]
    rw [e]
    have h1' : ¬ (10000 : Int) < a := by omega
    have h2' : (10000 : Int) < b := by omega
    go_enter Try.func73, Try.ntmps73
    go_wp2
    refine wp_loop_rounds 2 ?_
    rw [rounds_succ]
    go_wp2
    rw [rounds_succ]
    go_wp2
    go_ret
    exact ⟨rfl, rfl⟩
  by_cases h3 : 10000 < c
  · have e : longB a b c = true := by unfold longB; simp [h3]
    rw [e]
    have h1' : ¬ (10000 : Int) < a := by omega
    have h2' : ¬ (10000 : Int) < b := by omega
    have h3' : (10000 : Int) < c := by omega
    go_enter Try.func73, Try.ntmps73
    go_wp2
    refine wp_loop_rounds 3 ?_
    rw [rounds_succ]
    go_wp2
    rw [rounds_succ]
    go_wp2
    rw [rounds_succ]
    go_wp2
    go_ret
    exact ⟨rfl, rfl⟩
  · have e : longB a b c = false := by unfold longB; simp [h1, h2, h3]
    rw [e]
    have h1' : ¬ (10000 : Int) < a := by omega
    have h2' : ¬ (10000 : Int) < b := by omega
    have h3' : ¬ (10000 : Int) < c := by omega
    go_enter Try.func73, Try.ntmps73
    go_wp2
    refine wp_loop_rounds 4 ?_
    rw [rounds_succ]
    go_wp2
    rw [rounds_succ]
    go_wp2
    rw [rounds_succ]
    go_wp2
    rw [rounds_succ]
    go_wp2
    go_ret
    exact ⟨rfl, rfl⟩
set_option maxHeartbeats 1000000 in
theorem fcheck_any {w : World} (A B C : Option Addr) (a b c ca cb cc : Nat) (ha : a ≤ 140737488355328) (hb : b ≤ 140737488355328) (hc : c ≤ 140737488355328) :
    Calls Try.prog 43 #[.agg #[.slice A a ca, .slice B b cb, .slice C c cc]] w fun e w' => e = .returned (.int .i64 (if longB a b c then 2 else 0)) ∧ Below w.heap.size w w' := by
  obtain ⟨l, hl⟩ : ∃ l, longB a b c = l := ⟨_, rfl⟩
  rw [hl]
  have HL := Lib.hid hl
  clear hl
  go_enter Try.func43, Try.ntmps43
  go_wp2_with fail
  refine (anyLong_any A B C a b c ca cb cc ha hb hc (Blk.new_ (by simp))).mono ?_
  rintro e w1 ⟨rfl, rfl⟩
  rw [HL.out]
  cases l
  all_goals
    go_wp2
    go_ret
    exact ⟨rfl, ((Below.refl _ _).alloc (Nat.le_refl _) _).alloc (by simp) _⟩
end Go.Proofs.Ytjknjlkjpccibaa
namespace Go.Proofs.Ytjknjlkjpccibaa
open Go.RowKit
set_option linter.unusedVariables false
set_option linter.unusedSimpArgs false
set_option maxRecDepth 100000
def Hp.new : Hp := ⟨Tm.new, 0, false, 0, ⟨0, false⟩, ⟨0, 0⟩, 0, 0, 0, 0⟩
theorem Hp.new_ok (d : Hd) : Hp.new.ok d := ⟨Tm.new_ok, Nat.zero_le _, ⟨by decide, by decide⟩, by decide, ⟨by decide, by decide⟩, by decide⟩
def NewHR (d : Hd) (w : World) (e : Ending) (w' : World) : Prop :=
  ∃ g b, e = .returned (.tuple #[.pointer (some ⟨g, 0, none⟩), .agg #[.int .i64 0, .int .i64 0]]) ∧ (w.heap.size ≤ g ∧ w.heap.size ≤ b.v ∧ w.heap.size ≤ b.c ∧ w.heap.size ≤ b.p) ∧ HP w' g d b Hp.new ∧ Below w.heap.size w w'
def NewHN (r : Int × Int) (w : World) (e : Ending) (w' : World) : Prop := e = .returned (.tuple #[.pointer none, .agg #[.int .i64 r.1, .int .i64 r.2]]) ∧ Below w.heap.size w w'
section
variable {w : World} {A1 A2 A3 A : Option Addr} {n1 c1 n2 c2 n3 c3 n c : Nat} {z1 z2 z3 : Nat → Int} {es : Nat → Iib}
theorem HP.bkp {w w' : World} {k : Nat} {t : TypeId} {cs : Array Value} {B : Nat} (h : Blk w k t cs) (kp : Below B w w') (hB : k < B) : Blk w' k t cs := h.below kp hB
set_option maxHeartbeats 16000000 in
theorem hnew_yes (N1 : A1 = none → n1 = 0 ∧ c1 = 0) (N2 : A2 = none → n2 = 0 ∧ c2 = 0) (N3 : A3 = none → n3 = 0 ∧ c3 = 0) (NE : A = none → n = 0 ∧ c = 0)
    (R1 : IRow w .u8 A1 n1 z1) (R2 : IRow w .u8 A2 n2 z2) (R3 : IRow w .u8 A3 n3 z3) (RE : ERow w A n es) (hl : ¬ (10000 < n1 ∨ 10000 < n2 ∨ 10000 < n3)) (hc : n ≤ 9223372036854775807) (hk : (chk es n).1 = 0) (hG : Good n es) :
    Calls Try.prog 21 #[.agg #[.slice A1 n1 c1, .slice A2 n2 c2, .slice A3 n3 c3], .slice A n c] w (NewHR ⟨n, es, n1, z1, n2, z2, n3, z3⟩ w) := by
  have hlb : longB n1 n2 n3 = false := decide_eq_false hl
  have hchk := fcheck_any (w := (w.alloc (.cells #[.slice A1 n1 c1, .slice A2 n2 c2, .slice A3 n3 c3] 53)).alloc (.cells #[.int .i64 0, .int .i64 0] 48)) A1 A2 A3 n1 n2 n3 c1 c2 c3 (by omega) (by omega) (by omega)
  rw [hlb] at hchk
  have HCHK := Lib.hid hchk
  have hb1 : Below w.heap.size w ((w.alloc (.cells #[.slice A1 n1 c1, .slice A2 n2 c2, .slice A3 n3 c3] 53)).alloc (.cells #[.int .i64 0, .int .i64 0] 48)) := ((Below.refl _ _).alloc (Nat.le_refl _) _).alloc (by simp) _
  have F0 := Lib.hid ((Blk.new w 53 #[.slice A1 n1 c1, .slice A2 n2 c2, .slice A3 n3 c3]).alloc (.cells #[.int .i64 0, .int .i64 0] 48))
  have G0 := Lib.hid (Blk.new (w.alloc (.cells #[.slice A1 n1 c1, .slice A2 n2 c2, .slice A3 n3 c3] 53)) 48 #[.int .i64 0, .int .i64 0])
  rw [World.size_alloc] at G0
  have HB := Lib.hid hb1
  have HR1 := Lib.hid R1
  have HR2 := Lib.hid R2
  have HR3 := Lib.hid R3
  have HRE := Lib.hid RE
  have HN1 := Lib.hid N1
  have HN2 := Lib.hid N2
  have HN3 := Lib.hid N3
  have HNE := Lib.hid NE
  have HK := Lib.hid hk
  have HG := Lib.hid hG
  have hn : n1 ≤ 10000 ∧ n2 ≤ 10000 ∧ n3 ≤ 10000 := by omega
  clear hlb hchk hb1 R1 R2 R3 RE N1 N2 N3 NE hk hG hl
  go_enter Try.func21, Try.ntmps21
  go_wp2_with fail
  obtain ⟨B, hBB⟩ : ∃ B, w.heap.size = B := ⟨_, rfl⟩
  have HBB := Lib.hid hBB
  rw [hBB] at F0 G0 HB
  simp only [hBB]
  clear hBB
  generalize World.alloc _ _ = w1 at *
  refine HCHK.out.mono ?_
  rintro e w2 ⟨rfl, b2⟩
  have s1 : B + 1 < w1.heap.size := G0.out.lt
  have HB2 := Lib.hid (HB.out.trans (b2.mono (by omega)))
  have F2 := Lib.hid (F0.out.below b2 F0.out.lt)
  have G2 := Lib.hid (G0.out.below b2 G0.out.lt)
  clear b2 HB F0 G0 HCHK s1
  go_wp2_with fail
  refine (lnew_yes HNE.out (FRow.keep HRE.out (by rw [HBB.out]; exact HB2.out)) hc HK.out).mono ?_
  rintro e w3 ⟨gl, rfl, hgl, ⟨_, Ae, ce, y1, y2⟩, b3⟩
  have s2 : B + 1 < w2.heap.size := G2.out.lt
  have HB3 := Lib.hid (HB2.out.trans (b3.mono (by omega)))
  have F3 := Lib.hid (F2.out.below b3 F2.out.lt)
  have G3 := Lib.hid (G2.out.below b3 G2.out.lt)
  have L3 := Lib.hid y1
  have E3 := Lib.hid y2
  have hgB : B + 1 < gl := by omega
  clear b3 y1 y2 HB2 F2 G2 s2 hgl
  go_wp2_with fail
  have F4 : Hid (Blk (w3.alloc (.cells #[.int .i64 0, .int .i64 0] 48)).drew B 53 #[.slice A1 n1 c1, .slice A2 n2 c2, .slice A3 n3 c3]) := Lib.hid ((F3.out.alloc _).drew_)
  have G4 : Hid (Blk (w3.alloc (.cells #[.int .i64 0, .int .i64 0] 48)).drew (B + 1) 48 #[.int .i64 0, .int .i64 0]) := Lib.hid ((G3.out.alloc _).drew_)
  have L4 : Hid (Blk (w3.alloc (.cells #[.int .i64 0, .int .i64 0] 48)).drew gl 93 #[.slice Ae n ce, .int .i64 0, .bool false, .bool false, .bool false, .bool false, .bool false]) := Lib.hid ((L3.out.alloc _).drew_)
  have b4 : Below w3.heap.size w3 (w3.alloc (.cells #[.int .i64 0, .int .i64 0] 48)).drew := ((Below.refl _ _).alloc (Nat.le_refl _) _).drew
  have s3 : B + 1 < w3.heap.size := G3.out.lt
  have HB4 := Lib.hid (HB3.out.trans (b4.mono (by omega)))
  have E4 := Lib.hid (E3.out.keep b4)
  have FF := F4
  have GG := G4
  have LL := L4
  have EE := E4
  have BB := HB4
  have s4 : B + 1 < (w3.alloc (.cells #[.int .i64 0, .int .i64 0] 48)).drew.heap.size := G4.out.lt
  clear F3 G3 L3 b4 s3 HB3 E3 F4 G4 L4 HB4 E4
  refine rg_begin (S := fun w' => w'.cell? ⟨B, 0, none⟩ = some (.slice A1 n1 c1) ∧ w'.cell? ⟨B, 1, none⟩ = some (.slice A2 n2 c2) ∧ w'.cell? ⟨B, 2, none⟩ = some (.slice A3 n3 c3) ∧ Blk w' gl 93 #[.slice Ae n ce, .int .i64 0, .bool false, .bool false, .bool false, .bool false, .bool false]) 32 #[false, false, false, false, false, false, false, false, false, false, false, false, false, false, false, false, false, false, false, false, false, false, false, false, false, false, false, false, false, false, false, false] (by kernel_rfl) (by kernel_rfl) (by kernel_rfl) ?_ (fun hHeld => ?_)
  · exact ⟨FF.out.cell 0, FF.out.cell 1, FF.out.cell 2, LL.out⟩
  generalize (World.alloc w3 _).drew = w5 at *
  refine rg_take (i := 3) (d := some 27) (l := #[false, false, false, true, false, false, false, false, false, false, false, false, false, false, false, false, false, false, false, false, false, false, false, false, false, false, false, false, false, false, false, false]) (fuel := 31) (v := ?_) rfl (by kernel_rfl) (by kernel_rfl) (by kernel_rfl) (by kernel_rfl) (by kernel_rfl) (fun _ _ _ h => h) (by kernel_rfl) ?_ (by assumption) ?_
  rotate_left 1
  · (intro wS hSw; (try dsimp only at hSw); go_simp; try with_reducible rfl)
  try simp only [Act.put, List.setIfInBounds_toArray, List.set_cons_zero, List.set_cons_succ]
  refine rg_take (i := 4) (d := some 28) (l := #[false, false, false, true, true, false, false, false, false, false, false, false, false, false, false, false, false, false, false, false, false, false, false, false, false, false, false, false, false, false, false, false]) (fuel := 30) (v := ?_) rfl (by kernel_rfl) (by kernel_rfl) (by kernel_rfl) (by kernel_rfl) (by kernel_rfl) (fun _ _ _ h => h) (by kernel_rfl) ?_ (by assumption) ?_
  rotate_left 1
  · (intro wS hSw; (try dsimp only at hSw); go_simp; try with_reducible rfl)
  try simp only [Act.put, List.setIfInBounds_toArray, List.set_cons_zero, List.set_cons_succ]
  refine rg_take (i := 12) (d := some 36) (l := #[false, false, false, true, true, false, false, false, false, false, false, false, true, false, false, false, false, false, false, false, false, false, false, false, false, false, false, false, false, false, false, false]) (fuel := 29) (v := ?_) rfl (by kernel_rfl) (by kernel_rfl) (by kernel_rfl) (by kernel_rfl) (by kernel_rfl) (fun _ _ _ h => h) (by kernel_rfl) ?_ (by assumption) ?_
  rotate_left 1
  · (intro wS hSw; (try dsimp only at hSw); go_simp; try with_reducible rfl)
  try simp only [Act.put, List.setIfInBounds_toArray, List.set_cons_zero, List.set_cons_succ]
  refine rg_take (i := 13) (d := some 37) (l := #[false, false, false, true, true, false, false, false, false, false, false, false, true, true, false, false, false, false, false, false, false, false, false, false, false, false, false, false, false, false, false, false]) (fuel := 28) (v := ?_) rfl (by kernel_rfl) (by kernel_rfl) (by kernel_rfl) (by kernel_rfl) (by kernel_rfl) (fun _ _ _ h => h) (by kernel_rfl) ?_ (by assumption) ?_
  rotate_left 1
  · (intro wS hSw; (try dsimp only at hSw); go_simp; try with_reducible rfl)
  try simp only [Act.put, List.setIfInBounds_toArray, List.set_cons_zero, List.set_cons_succ]
  refine rg_take (i := 17) (d := some 41) (l := #[false, false, false, true, true, false, false, false, false, false, false, false, true, true, false, false, false, true, false, false, false, false, false, false, false, false, false, false, false, false, false, false]) (fuel := 27) (v := ?_) rfl (by kernel_rfl) (by kernel_rfl) (by kernel_rfl) (by kernel_rfl) (by kernel_rfl) (fun _ _ _ h => h) (by kernel_rfl) ?_ (by assumption) ?_
  rotate_left 1
  · (intro wS hSw; (try dsimp only at hSw); go_simp; try with_reducible rfl)
  try simp only [Act.put, List.setIfInBounds_toArray, List.set_cons_zero, List.set_cons_succ]
  refine rg_take (i := 18) (d := some 42) (l := #[false, false, false, true, true, false, false, false, false, false, false, false, true, true, false, false, false, true, true, false, false, false, false, false, false, false, false, false, false, false, false, false]) (fuel := 26) (v := ?_) rfl (by kernel_rfl) (by kernel_rfl) (by kernel_rfl) (by kernel_rfl) (by kernel_rfl) (fun _ _ _ h => h) (by kernel_rfl) ?_ (by assumption) ?_
  rotate_left 1
  · (intro wS hSw; (try dsimp only at hSw); go_simp; try with_reducible rfl)
  try simp only [Act.put, List.setIfInBounds_toArray, List.set_cons_zero, List.set_cons_succ]
  refine rg_take (i := 22) (d := some 46) (l := #[false, false, false, true, true, false, false, false, false, false, false, false, true, true, false, false, false, true, true, false, false, false, true, false, false, false, false, false, false, false, false, false]) (fuel := 25) (v := ?_) rfl (by kernel_rfl) (by kernel_rfl) (by kernel_rfl) (by kernel_rfl) (by kernel_rfl) (fun _ _ _ h => h) (by kernel_rfl) ?_ (by assumption) ?_
  rotate_left 1
  · (intro wS hSw; (try dsimp only at hSw); go_simp; try with_reducible rfl)
  try simp only [Act.put, List.setIfInBounds_toArray, List.set_cons_zero, List.set_cons_succ]
  refine rg_take (i := 23) (d := some 47) (l := #[false, false, false, true, true, false, false, false, false, false, false, false, true, true, false, false, false, true, true, false, false, false, true, true, false, false, false, false, false, false, false, false]) (fuel := 24) (v := ?_) rfl (by kernel_rfl) (by kernel_rfl) (by kernel_rfl) (by kernel_rfl) (by kernel_rfl) (fun _ _ _ h => h) (by kernel_rfl) ?_ (by assumption) ?_
  rotate_left 1
  · (intro wS hSw; (try dsimp only at hSw); go_simp; try with_reducible rfl)
  try simp only [Act.put, List.setIfInBounds_toArray, List.set_cons_zero, List.set_cons_succ]
  refine rg_take (i := 29) (d := some 53) (l := #[false, false, false, true, true, false, false, false, false, false, false, false, true, true, false, false, false, true, true, false, false, false, true, true, false, false, false, false, false, true, false, false]) (fuel := 23) (v := ?_) rfl (by kernel_rfl) (by kernel_rfl) (by kernel_rfl) (by kernel_rfl) (by kernel_rfl) (fun _ _ _ h => h) (by kernel_rfl) ?_ (by assumption) ?_
  rotate_left 1
  · (intro wS hSw; (try dsimp only at hSw); go_simp; try with_reducible rfl)
  try simp only [Act.put, List.setIfInBounds_toArray, List.set_cons_zero, List.set_cons_succ]
  refine rg_take (i := 5) (d := some 29) (l := #[false, false, false, true, true, true, false, false, false, false, false, false, true, true, false, false, false, true, true, false, false, false, true, true, false, false, false, false, false, true, false, false]) (fuel := 22) (v := .agg #[.slice Ae n ce, .int .i64 0, .bool false, .bool false, .bool false, .bool false, .bool false]) rfl (by kernel_rfl) (by kernel_rfl) (by kernel_rfl) (by kernel_rfl) (by kernel_rfl) (fun _ _ _ h => h) (by kernel_rfl) ?_ (by assumption) ?_
  · (intro wS hSw; (try dsimp only at hSw); exact exec_load_row 93 (.tmp 28) rfl gl rfl 93 #[.slice Ae n ce, .int .i64 0, .bool false, .bool false, .bool false, .bool false, .bool false] (0, 0) _ hSw.2.2.2 Try.underlying93 rfl (by kernel_rfl))
  try simp only [Act.put, List.setIfInBounds_toArray, List.set_cons_zero, List.set_cons_succ]
  refine rg_next (i := 0) (l := #[true, false, false, true, true, true, false, false, false, false, false, false, true, true, false, false, false, true, true, false, false, false, true, true, false, false, false, false, false, true, false, false]) (fuel := 21) (by kernel_rfl) rfl (by kernel_rfl) (by kernel_rfl) (fun K hK => ?_)
  go_simp
  (go_at_call 23)
  refine (tnew_any w5).mono ?_
  rintro e w6 ⟨rfl, y1, b6⟩
  obtain ⟨gt, hgt⟩ : ∃ gt, w5.heap.size = gt := ⟨_, rfl⟩
  have N1 : Hid (Blk w6 gt 91 #[.int .i64 0, .int .u8 0, .int .u8 0, .bool false]) := Lib.hid (hgt ▸ y1.1)
  simp only [hgt]
  have v1 : B + 1 < gt := by omega
  clear y1 hgt
  have BB' := Lib.hid (BB.out.trans (b6.mono (by omega)))
  replace FF := Lib.hid (FF.out.below b6 FF.out.lt)
  replace GG := Lib.hid (GG.out.below b6 GG.out.lt)
  replace LL := Lib.hid (LL.out.below b6 LL.out.lt)
  replace EE := Lib.hid (EE.out.keep b6)
  clear BB
  have BB := BB'
  clear BB' b6
  have s6 : gt < w6.heap.size := N1.out.lt
  clear s4
  first | (refine hK.out _ _ ?_ (fun hHeld => ?_)) | (go_wp2_with fail; refine hK.out _ _ ?_ (fun hHeld => ?_))
  · (try dsimp only); exact ⟨FF.out.cell 0, FF.out.cell 1, FF.out.cell 2, LL.out⟩
  clear hK K
  try simp only [Act.put, List.setIfInBounds_toArray, List.set_cons_zero, List.set_cons_succ]
  refine rg_take (i := 1) (d := some 25) (l := #[true, true, false, true, true, true, false, false, false, false, false, false, true, true, false, false, false, true, true, false, false, false, true, true, false, false, false, false, false, true, false, false]) (fuel := 20) (v := ?_) rfl (by kernel_rfl) (by kernel_rfl) (by kernel_rfl) (by kernel_rfl) (by kernel_rfl) (fun _ _ _ h => h) (by kernel_rfl) ?_ (by assumption) ?_
  rotate_left 1
  · (intro wS hSw; (try dsimp only at hSw); go_simp; try with_reducible rfl)
  try simp only [Act.put, List.setIfInBounds_toArray, List.set_cons_zero, List.set_cons_succ]
  refine rg_more (S' := fun w' => Blk w' gt 91 #[.int .i64 0, .int .u8 0, .int .u8 0, .bool false] ∧ w'.cell? ⟨B, 0, none⟩ = some (.slice A1 n1 c1) ∧ w'.cell? ⟨B, 1, none⟩ = some (.slice A2 n2 c2) ∧ w'.cell? ⟨B, 2, none⟩ = some (.slice A3 n3 c3) ∧ Blk w' gl 93 #[.slice Ae n ce, .int .i64 0, .bool false, .bool false, .bool false, .bool false, .bool false]) (fun w h => h.2) _ _ _ _ ?_
  clear hHeld
  have hHeld : (fun w' : World => Blk w' gt 91 #[.int .i64 0, .int .u8 0, .int .u8 0, .bool false] ∧ w'.cell? ⟨B, 0, none⟩ = some (.slice A1 n1 c1) ∧ w'.cell? ⟨B, 1, none⟩ = some (.slice A2 n2 c2) ∧ w'.cell? ⟨B, 2, none⟩ = some (.slice A3 n3 c3) ∧ Blk w' gl 93 #[.slice Ae n ce, .int .i64 0, .bool false, .bool false, .bool false, .bool false, .bool false]) _ := ⟨N1.out, FF.out.cell 0, FF.out.cell 1, FF.out.cell 2, LL.out⟩
  refine rg_take (i := 2) (d := some 26) (l := #[true, true, true, true, true, true, false, false, false, false, false, false, true, true, false, false, false, true, true, false, false, false, true, true, false, false, false, false, false, true, false, false]) (fuel := 19) (v := .agg #[.int .i64 0, .int .u8 0, .int .u8 0, .bool false]) rfl (by kernel_rfl) (by kernel_rfl) (by kernel_rfl) (by kernel_rfl) (by kernel_rfl) (fun _ _ _ h => h) (by kernel_rfl) ?_ (by assumption) ?_
  · (intro wS hSw; (try dsimp only at hSw); exact exec_load_row 91 (.tmp 25) rfl gt rfl 91 #[.int .i64 0, .int .u8 0, .int .u8 0, .bool false] (0, 0) _ hSw.1 Try.underlying91 rfl (by kernel_rfl))
  try simp only [Act.put, List.setIfInBounds_toArray, List.set_cons_zero, List.set_cons_succ]
  refine rg_next (i := 6) (l := #[true, true, true, true, true, true, true, false, false, false, false, false, true, true, false, false, false, true, true, false, false, false, true, true, false, false, false, false, false, true, false, false]) (fuel := 18) (by kernel_rfl) rfl (by kernel_rfl) (by kernel_rfl) (fun K hK => ?_)
  go_simp
  (go_at_call 45)
  refine (lnew_any 0 w6).mono ?_
  rintro e w7 ⟨rfl, y1⟩
  have b7 : Below w6.heap.size w6 w7 := y1 ▸ (Below.refl _ _).alloc (Nat.le_refl _) _
  obtain ⟨gb, hgb⟩ : ∃ gb, w6.heap.size = gb := ⟨_, rfl⟩
  have N3 : Hid (Blk w7 gb 95 #[.int .u8 0]) := Lib.hid (by rw [y1]; exact Blk.new_ hgb.symm)
  clear y1
  simp only [hgb]
  have v3 : B + 1 < gb := by omega
  clear hgb
  have BB' := Lib.hid (BB.out.trans (b7.mono (by omega)))
  replace FF := Lib.hid (FF.out.below b7 FF.out.lt)
  replace GG := Lib.hid (GG.out.below b7 GG.out.lt)
  replace LL := Lib.hid (LL.out.below b7 LL.out.lt)
  replace EE := Lib.hid (EE.out.keep b7)
  replace N1 := Lib.hid (N1.out.below b7 N1.out.lt)
  clear BB
  have BB := BB'
  clear BB' b7
  have s7 : gb < w7.heap.size := N3.out.lt
  clear s6
  first | (refine hK.out _ _ ?_ (fun hHeld => ?_)) | (go_wp2_with fail; refine hK.out _ _ ?_ (fun hHeld => ?_))
  · (try dsimp only); exact ⟨N1.out, FF.out.cell 0, FF.out.cell 1, FF.out.cell 2, LL.out⟩
  clear hK K
  try simp only [Act.put, List.setIfInBounds_toArray, List.set_cons_zero, List.set_cons_succ]
  refine rg_take (i := 7) (d := some 31) (l := #[true, true, true, true, true, true, true, true, false, false, false, false, true, true, false, false, false, true, true, false, false, false, true, true, false, false, false, false, false, true, false, false]) (fuel := 17) (v := ?_) rfl (by kernel_rfl) (by kernel_rfl) (by kernel_rfl) (by kernel_rfl) (by kernel_rfl) (fun _ _ _ h => h) (by kernel_rfl) ?_ (by assumption) ?_
  rotate_left 1
  · (intro wS hSw; (try dsimp only at hSw); go_simp; try with_reducible rfl)
  try simp only [Act.put, List.setIfInBounds_toArray, List.set_cons_zero, List.set_cons_succ]
  refine rg_more (S' := fun w' => Blk w' gb 95 #[.int .u8 0] ∧ Blk w' gt 91 #[.int .i64 0, .int .u8 0, .int .u8 0, .bool false] ∧ w'.cell? ⟨B, 0, none⟩ = some (.slice A1 n1 c1) ∧ w'.cell? ⟨B, 1, none⟩ = some (.slice A2 n2 c2) ∧ w'.cell? ⟨B, 2, none⟩ = some (.slice A3 n3 c3) ∧ Blk w' gl 93 #[.slice Ae n ce, .int .i64 0, .bool false, .bool false, .bool false, .bool false, .bool false]) (fun w h => h.2) _ _ _ _ ?_
  clear hHeld
  have hHeld : (fun w' : World => Blk w' gb 95 #[.int .u8 0] ∧ Blk w' gt 91 #[.int .i64 0, .int .u8 0, .int .u8 0, .bool false] ∧ w'.cell? ⟨B, 0, none⟩ = some (.slice A1 n1 c1) ∧ w'.cell? ⟨B, 1, none⟩ = some (.slice A2 n2 c2) ∧ w'.cell? ⟨B, 2, none⟩ = some (.slice A3 n3 c3) ∧ Blk w' gl 93 #[.slice Ae n ce, .int .i64 0, .bool false, .bool false, .bool false, .bool false, .bool false]) _ := ⟨N3.out, N1.out, FF.out.cell 0, FF.out.cell 1, FF.out.cell 2, LL.out⟩
  refine rg_take (i := 8) (d := some 32) (l := #[true, true, true, true, true, true, true, true, true, false, false, false, true, true, false, false, false, true, true, false, false, false, true, true, false, false, false, false, false, true, false, false]) (fuel := 16) (v := .agg #[.int .u8 0]) rfl (by kernel_rfl) (by kernel_rfl) (by kernel_rfl) (by kernel_rfl) (by kernel_rfl) (fun _ _ _ h => h) (by kernel_rfl) ?_ (by assumption) ?_
  · (intro wS hSw; (try dsimp only at hSw); exact exec_load_row 95 (.tmp 31) rfl gb rfl 95 #[.int .u8 0] (0, 0) _ hSw.1 Try.underlying95 rfl (by kernel_rfl))
  try simp only [Act.put, List.setIfInBounds_toArray, List.set_cons_zero, List.set_cons_succ]
  refine rg_next (i := 9) (l := #[true, true, true, true, true, true, true, true, true, true, false, false, true, true, false, false, false, true, true, false, false, false, true, true, false, false, false, false, false, true, false, false]) (fuel := 15) (by kernel_rfl) rfl (by kernel_rfl) (by kernel_rfl) (fun K hK => ?_)
  go_simp
  (go_at_call 9)
  refine (qnew_any w7).mono ?_
  rintro e w8 ⟨rfl, y1, b8⟩
  obtain ⟨gi, hgi⟩ : ∃ gi, w7.heap.size = gi := ⟨_, rfl⟩
  have N4 : Hid (Blk w8 gi 74 #[.int .u8 0, .bool false]) := Lib.hid (hgi ▸ y1.1)
  simp only [hgi]
  have v4 : B + 1 < gi := by omega
  clear y1 hgi
  have BB' := Lib.hid (BB.out.trans (b8.mono (by omega)))
  replace FF := Lib.hid (FF.out.below b8 FF.out.lt)
  replace GG := Lib.hid (GG.out.below b8 GG.out.lt)
  replace LL := Lib.hid (LL.out.below b8 LL.out.lt)
  replace EE := Lib.hid (EE.out.keep b8)
  replace N1 := Lib.hid (N1.out.below b8 N1.out.lt)
  replace N3 := Lib.hid (N3.out.below b8 N3.out.lt)
  clear BB
  have BB := BB'
  clear BB' b8
  have s8 : gi < w8.heap.size := N4.out.lt
  clear s7
  first | (refine hK.out _ _ ?_ (fun hHeld => ?_)) | (go_wp2_with fail; refine hK.out _ _ ?_ (fun hHeld => ?_))
  · (try dsimp only); exact ⟨N3.out, N1.out, FF.out.cell 0, FF.out.cell 1, FF.out.cell 2, LL.out⟩
  clear hK K
  try simp only [Act.put, List.setIfInBounds_toArray, List.set_cons_zero, List.set_cons_succ]
  refine rg_take (i := 10) (d := some 34) (l := #[true, true, true, true, true, true, true, true, true, true, true, false, true, true, false, false, false, true, true, false, false, false, true, true, false, false, false, false, false, true, false, false]) (fuel := 14) (v := ?_) rfl (by kernel_rfl) (by kernel_rfl) (by kernel_rfl) (by kernel_rfl) (by kernel_rfl) (fun _ _ _ h => h) (by kernel_rfl) ?_ (by assumption) ?_
  rotate_left 1
  · (intro wS hSw; (try dsimp only at hSw); go_simp; try with_reducible rfl)
  try simp only [Act.put, List.setIfInBounds_toArray, List.set_cons_zero, List.set_cons_succ]
  refine rg_more (S' := fun w' => Blk w' gi 74 #[.int .u8 0, .bool false] ∧ Blk w' gb 95 #[.int .u8 0] ∧ Blk w' gt 91 #[.int .i64 0, .int .u8 0, .int .u8 0, .bool false] ∧ w'.cell? ⟨B, 0, none⟩ = some (.slice A1 n1 c1) ∧ w'.cell? ⟨B, 1, none⟩ = some (.slice A2 n2 c2) ∧ w'.cell? ⟨B, 2, none⟩ = some (.slice A3 n3 c3) ∧ Blk w' gl 93 #[.slice Ae n ce, .int .i64 0, .bool false, .bool false, .bool false, .bool false, .bool false]) (fun w h => h.2) _ _ _ _ ?_
  clear hHeld
  have hHeld : (fun w' : World => Blk w' gi 74 #[.int .u8 0, .bool false] ∧ Blk w' gb 95 #[.int .u8 0] ∧ Blk w' gt 91 #[.int .i64 0, .int .u8 0, .int .u8 0, .bool false] ∧ w'.cell? ⟨B, 0, none⟩ = some (.slice A1 n1 c1) ∧ w'.cell? ⟨B, 1, none⟩ = some (.slice A2 n2 c2) ∧ w'.cell? ⟨B, 2, none⟩ = some (.slice A3 n3 c3) ∧ Blk w' gl 93 #[.slice Ae n ce, .int .i64 0, .bool false, .bool false, .bool false, .bool false, .bool false]) _ := ⟨N4.out, N3.out, N1.out, FF.out.cell 0, FF.out.cell 1, FF.out.cell 2, LL.out⟩
  refine rg_take (i := 11) (d := some 35) (l := #[true, true, true, true, true, true, true, true, true, true, true, true, true, true, false, false, false, true, true, false, false, false, true, true, false, false, false, false, false, true, false, false]) (fuel := 13) (v := .agg #[.int .u8 0, .bool false]) rfl (by kernel_rfl) (by kernel_rfl) (by kernel_rfl) (by kernel_rfl) (by kernel_rfl) (fun _ _ _ h => h) (by kernel_rfl) ?_ (by assumption) ?_
  · (intro wS hSw; (try dsimp only at hSw); exact exec_load_row 74 (.tmp 34) rfl gi rfl 74 #[.int .u8 0, .bool false] (0, 0) _ hSw.1 Try.underlying74 rfl (by kernel_rfl))
  try simp only [Act.put, List.setIfInBounds_toArray, List.set_cons_zero, List.set_cons_succ]
  refine rg_next (i := 14) (l := #[true, true, true, true, true, true, true, true, true, true, true, true, true, true, true, false, false, true, true, false, false, false, true, true, false, false, false, false, false, true, false, false]) (fuel := 12) (by kernel_rfl) rfl (by kernel_rfl) (by kernel_rfl) (fun K hK => ?_)
  go_simp
  (go_at_call 46)
  refine (pnew_any A3 n3 c3 z3 HN3.out (by omega) (HR3.out.keep (by rw [HBB.out]; exact BB.out))).mono ?_
  rintro e w9 ⟨gp, bp, rfl, r1, r2, y1, b9⟩
  have N5 : Hid (Blk w9 gp 102 #[giveV bp, .int .i64 0, .int .u8 0, .int .i64 0]) := Lib.hid y1.1.1
  have M5 : Hid (Box w9 bp (n3 - 0) (fun i => z3 (0 + i))) := Lib.hid y1.1.2.2
  have v5 : B + 1 < gp ∧ B + 1 < bp := by omega
  have s9 : bp < w9.heap.size := PT.ltc y1
  clear y1
  have BB' := Lib.hid (BB.out.trans (b9.mono (by omega)))
  replace FF := Lib.hid (FF.out.below b9 FF.out.lt)
  replace GG := Lib.hid (GG.out.below b9 GG.out.lt)
  replace LL := Lib.hid (LL.out.below b9 LL.out.lt)
  replace EE := Lib.hid (EE.out.keep b9)
  replace N1 := Lib.hid (N1.out.below b9 N1.out.lt)
  replace N3 := Lib.hid (N3.out.below b9 N3.out.lt)
  replace N4 := Lib.hid (N4.out.below b9 N4.out.lt)
  clear BB
  have BB := BB'
  clear BB' b9
  clear s8 r1 r2
  first | (refine hK.out _ _ ?_ (fun hHeld => ?_)) | (go_wp2_with fail; refine hK.out _ _ ?_ (fun hHeld => ?_))
  · (try dsimp only); exact ⟨N4.out, N3.out, N1.out, FF.out.cell 0, FF.out.cell 1, FF.out.cell 2, LL.out⟩
  clear hK K
  try simp only [Act.put, List.setIfInBounds_toArray, List.set_cons_zero, List.set_cons_succ]
  refine rg_take (i := 15) (d := some 39) (l := #[true, true, true, true, true, true, true, true, true, true, true, true, true, true, true, true, false, true, true, false, false, false, true, true, false, false, false, false, false, true, false, false]) (fuel := 11) (v := ?_) rfl (by kernel_rfl) (by kernel_rfl) (by kernel_rfl) (by kernel_rfl) (by kernel_rfl) (fun _ _ _ h => h) (by kernel_rfl) ?_ (by assumption) ?_
  rotate_left 1
  · (intro wS hSw; (try dsimp only at hSw); go_simp; try with_reducible rfl)
  try simp only [Act.put, List.setIfInBounds_toArray, List.set_cons_zero, List.set_cons_succ]
  refine rg_more (S' := fun w' => Blk w' gp 102 #[giveV bp, .int .i64 0, .int .u8 0, .int .i64 0] ∧ Blk w' gi 74 #[.int .u8 0, .bool false] ∧ Blk w' gb 95 #[.int .u8 0] ∧ Blk w' gt 91 #[.int .i64 0, .int .u8 0, .int .u8 0, .bool false] ∧ w'.cell? ⟨B, 0, none⟩ = some (.slice A1 n1 c1) ∧ w'.cell? ⟨B, 1, none⟩ = some (.slice A2 n2 c2) ∧ w'.cell? ⟨B, 2, none⟩ = some (.slice A3 n3 c3) ∧ Blk w' gl 93 #[.slice Ae n ce, .int .i64 0, .bool false, .bool false, .bool false, .bool false, .bool false]) (fun w h => h.2) _ _ _ _ ?_
  clear hHeld
  have hHeld : (fun w' : World => Blk w' gp 102 #[giveV bp, .int .i64 0, .int .u8 0, .int .i64 0] ∧ Blk w' gi 74 #[.int .u8 0, .bool false] ∧ Blk w' gb 95 #[.int .u8 0] ∧ Blk w' gt 91 #[.int .i64 0, .int .u8 0, .int .u8 0, .bool false] ∧ w'.cell? ⟨B, 0, none⟩ = some (.slice A1 n1 c1) ∧ w'.cell? ⟨B, 1, none⟩ = some (.slice A2 n2 c2) ∧ w'.cell? ⟨B, 2, none⟩ = some (.slice A3 n3 c3) ∧ Blk w' gl 93 #[.slice Ae n ce, .int .i64 0, .bool false, .bool false, .bool false, .bool false, .bool false]) _ := ⟨N5.out, N4.out, N3.out, N1.out, FF.out.cell 0, FF.out.cell 1, FF.out.cell 2, LL.out⟩
  refine rg_take (i := 16) (d := some 40) (l := #[true, true, true, true, true, true, true, true, true, true, true, true, true, true, true, true, true, true, true, false, false, false, true, true, false, false, false, false, false, true, false, false]) (fuel := 10) (v := .agg #[giveV bp, .int .i64 0, .int .u8 0, .int .i64 0]) rfl (by kernel_rfl) (by kernel_rfl) (by kernel_rfl) (by kernel_rfl) (by kernel_rfl) (fun _ _ _ h => h) (by kernel_rfl) ?_ (by assumption) ?_
  · (intro wS hSw; (try dsimp only at hSw); exact exec_load_row 102 (.tmp 39) rfl gp rfl 102 #[giveV bp, .int .i64 0, .int .u8 0, .int .i64 0] (0, 0) _ hSw.1 Try.underlying102 rfl (by kernel_rfl))
  try simp only [Act.put, List.setIfInBounds_toArray, List.set_cons_zero, List.set_cons_succ]
  refine rg_next (i := 19) (l := #[true, true, true, true, true, true, true, true, true, true, true, true, true, true, true, true, true, true, true, true, false, false, true, true, false, false, false, false, false, true, false, false]) (fuel := 9) (by kernel_rfl) rfl (by kernel_rfl) (by kernel_rfl) (fun K hK => ?_)
  go_simp
  (go_at_call 47)
  refine (new_any A1 n1 c1 z1 HN1.out (by omega) (HR1.out.keep (by rw [HBB.out]; exact BB.out))).mono ?_
  rintro e w10 ⟨gv, bv, rfl, r1, r2, r3, r4, y1, b10⟩
  have N6 : Hid (Blk w10 gv 100 #[giveV bv, .int .i64 0]) := Lib.hid y1.1
  have M6 : Hid (Box w10 bv (n1 - 0) (fun i => z1 (0 + i))) := Lib.hid (by obtain ⟨_, v, h1, h2⟩ := y1; exact ⟨v, h1, by simpa using h2⟩)
  have v6 : B + 1 < gv ∧ B + 1 < bv ∧ bp < bv := by omega
  clear y1
  have BB' := Lib.hid (BB.out.trans (b10.mono (by omega)))
  replace FF := Lib.hid (FF.out.below b10 FF.out.lt)
  replace GG := Lib.hid (GG.out.below b10 GG.out.lt)
  replace LL := Lib.hid (LL.out.below b10 LL.out.lt)
  replace EE := Lib.hid (EE.out.keep b10)
  replace N1 := Lib.hid (N1.out.below b10 N1.out.lt)
  replace N3 := Lib.hid (N3.out.below b10 N3.out.lt)
  replace N4 := Lib.hid (N4.out.below b10 N4.out.lt)
  replace N5 := Lib.hid (N5.out.below b10 N5.out.lt)
  replace M5 := Lib.hid (M5.out.kp (Kp.of_below (L := []) b10) (fun y hy => by cases hy) (by simp))
  clear BB
  have BB := BB'
  clear BB' b10
  clear s9 r1 r2 r3
  first | (refine hK.out _ _ ?_ (fun hHeld => ?_)) | (go_wp2_with fail; refine hK.out _ _ ?_ (fun hHeld => ?_))
  · (try dsimp only); exact ⟨N5.out, N4.out, N3.out, N1.out, FF.out.cell 0, FF.out.cell 1, FF.out.cell 2, LL.out⟩
  clear hK K
  try simp only [Act.put, List.setIfInBounds_toArray, List.set_cons_zero, List.set_cons_succ]
  refine rg_take (i := 20) (d := some 44) (l := #[true, true, true, true, true, true, true, true, true, true, true, true, true, true, true, true, true, true, true, true, true, false, true, true, false, false, false, false, false, true, false, false]) (fuel := 8) (v := ?_) rfl (by kernel_rfl) (by kernel_rfl) (by kernel_rfl) (by kernel_rfl) (by kernel_rfl) (fun _ _ _ h => h) (by kernel_rfl) ?_ (by assumption) ?_
  rotate_left 1
  · (intro wS hSw; (try dsimp only at hSw); go_simp; try with_reducible rfl)
  try simp only [Act.put, List.setIfInBounds_toArray, List.set_cons_zero, List.set_cons_succ]
  refine rg_more (S' := fun w' => Blk w' gv 100 #[giveV bv, .int .i64 0] ∧ Blk w' gp 102 #[giveV bp, .int .i64 0, .int .u8 0, .int .i64 0] ∧ Blk w' gi 74 #[.int .u8 0, .bool false] ∧ Blk w' gb 95 #[.int .u8 0] ∧ Blk w' gt 91 #[.int .i64 0, .int .u8 0, .int .u8 0, .bool false] ∧ w'.cell? ⟨B, 0, none⟩ = some (.slice A1 n1 c1) ∧ w'.cell? ⟨B, 1, none⟩ = some (.slice A2 n2 c2) ∧ w'.cell? ⟨B, 2, none⟩ = some (.slice A3 n3 c3) ∧ Blk w' gl 93 #[.slice Ae n ce, .int .i64 0, .bool false, .bool false, .bool false, .bool false, .bool false]) (fun w h => h.2) _ _ _ _ ?_
  clear hHeld
  have hHeld : (fun w' : World => Blk w' gv 100 #[giveV bv, .int .i64 0] ∧ Blk w' gp 102 #[giveV bp, .int .i64 0, .int .u8 0, .int .i64 0] ∧ Blk w' gi 74 #[.int .u8 0, .bool false] ∧ Blk w' gb 95 #[.int .u8 0] ∧ Blk w' gt 91 #[.int .i64 0, .int .u8 0, .int .u8 0, .bool false] ∧ w'.cell? ⟨B, 0, none⟩ = some (.slice A1 n1 c1) ∧ w'.cell? ⟨B, 1, none⟩ = some (.slice A2 n2 c2) ∧ w'.cell? ⟨B, 2, none⟩ = some (.slice A3 n3 c3) ∧ Blk w' gl 93 #[.slice Ae n ce, .int .i64 0, .bool false, .bool false, .bool false, .bool false, .bool false]) _ := ⟨N6.out, N5.out, N4.out, N3.out, N1.out, FF.out.cell 0, FF.out.cell 1, FF.out.cell 2, LL.out⟩
  refine rg_take (i := 21) (d := some 45) (l := #[true, true, true, true, true, true, true, true, true, true, true, true, true, true, true, true, true, true, true, true, true, true, true, true, false, false, false, false, false, true, false, false]) (fuel := 7) (v := .agg #[giveV bv, .int .i64 0]) rfl (by kernel_rfl) (by kernel_rfl) (by kernel_rfl) (by kernel_rfl) (by kernel_rfl) (fun _ _ _ h => h) (by kernel_rfl) ?_ (by assumption) ?_
  · (intro wS hSw; (try dsimp only at hSw); exact exec_load_row 100 (.tmp 44) rfl gv rfl 100 #[giveV bv, .int .i64 0] (0, 0) _ hSw.1 Try.underlying100 rfl (by kernel_rfl))
  try simp only [Act.put, List.setIfInBounds_toArray, List.set_cons_zero, List.set_cons_succ]
  refine rg_next (i := 24) (l := #[true, true, true, true, true, true, true, true, true, true, true, true, true, true, true, true, true, true, true, true, true, true, true, true, true, false, false, false, false, true, false, false]) (fuel := 6) (by kernel_rfl) rfl (by kernel_rfl) (by kernel_rfl) (fun K hK => ?_)
  go_simp
  (go_at_call 47)
  refine (new_any A2 n2 c2 z2 HN2.out (by omega) (HR2.out.keep (by rw [HBB.out]; exact BB.out))).mono ?_
  rintro e w11 ⟨gc, bc, rfl, r1, r2, r3, r5, y1, b11⟩
  have N7 : Hid (Blk w11 gc 100 #[giveV bc, .int .i64 0]) := Lib.hid y1.1
  have M7 : Hid (Box w11 bc (n2 - 0) (fun i => z2 (0 + i))) := Lib.hid (by obtain ⟨_, v, h1, h2⟩ := y1; exact ⟨v, h1, by simpa using h2⟩)
  have v7 : B + 1 < gc ∧ B + 1 < bc ∧ bv < bc ∧ bp < bc := by omega
  clear y1
  have BB' := Lib.hid (BB.out.trans (b11.mono (by omega)))
  replace FF := Lib.hid (FF.out.below b11 FF.out.lt)
  replace GG := Lib.hid (GG.out.below b11 GG.out.lt)
  replace LL := Lib.hid (LL.out.below b11 LL.out.lt)
  replace EE := Lib.hid (EE.out.keep b11)
  replace N1 := Lib.hid (N1.out.below b11 N1.out.lt)
  replace N3 := Lib.hid (N3.out.below b11 N3.out.lt)
  replace N4 := Lib.hid (N4.out.below b11 N4.out.lt)
  replace N5 := Lib.hid (N5.out.below b11 N5.out.lt)
  replace N6 := Lib.hid (N6.out.below b11 N6.out.lt)
  replace M5 := Lib.hid (M5.out.kp (Kp.of_below (L := []) b11) (fun y hy => by cases hy) (by simp))
  replace M6 := Lib.hid (M6.out.kp (Kp.of_below (L := []) b11) (fun y hy => by cases hy) (by simp))
  clear BB
  have BB := BB'
  clear BB' b11
  clear r1 r2 r3
  first | (refine hK.out _ _ ?_ (fun hHeld => ?_)) | (go_wp2_with fail; refine hK.out _ _ ?_ (fun hHeld => ?_))
  · (try dsimp only); exact ⟨N6.out, N5.out, N4.out, N3.out, N1.out, FF.out.cell 0, FF.out.cell 1, FF.out.cell 2, LL.out⟩
  clear hK K
  try simp only [Act.put, List.setIfInBounds_toArray, List.set_cons_zero, List.set_cons_succ]
  refine rg_take (i := 25) (d := some 49) (l := #[true, true, true, true, true, true, true, true, true, true, true, true, true, true, true, true, true, true, true, true, true, true, true, true, true, true, false, false, false, true, false, false]) (fuel := 5) (v := ?_) rfl (by kernel_rfl) (by kernel_rfl) (by kernel_rfl) (by kernel_rfl) (by kernel_rfl) (fun _ _ _ h => h) (by kernel_rfl) ?_ (by assumption) ?_
  rotate_left 1
  · (intro wS hSw; (try dsimp only at hSw); go_simp; try with_reducible rfl)
  try simp only [Act.put, List.setIfInBounds_toArray, List.set_cons_zero, List.set_cons_succ]
  refine rg_more (S' := fun w' => Blk w' gc 100 #[giveV bc, .int .i64 0] ∧ Blk w' gv 100 #[giveV bv, .int .i64 0] ∧ Blk w' gp 102 #[giveV bp, .int .i64 0, .int .u8 0, .int .i64 0] ∧ Blk w' gi 74 #[.int .u8 0, .bool false] ∧ Blk w' gb 95 #[.int .u8 0] ∧ Blk w' gt 91 #[.int .i64 0, .int .u8 0, .int .u8 0, .bool false] ∧ w'.cell? ⟨B, 0, none⟩ = some (.slice A1 n1 c1) ∧ w'.cell? ⟨B, 1, none⟩ = some (.slice A2 n2 c2) ∧ w'.cell? ⟨B, 2, none⟩ = some (.slice A3 n3 c3) ∧ Blk w' gl 93 #[.slice Ae n ce, .int .i64 0, .bool false, .bool false, .bool false, .bool false, .bool false]) (fun w h => h.2) _ _ _ _ ?_
  clear hHeld
  have hHeld : (fun w' : World => Blk w' gc 100 #[giveV bc, .int .i64 0] ∧ Blk w' gv 100 #[giveV bv, .int .i64 0] ∧ Blk w' gp 102 #[giveV bp, .int .i64 0, .int .u8 0, .int .i64 0] ∧ Blk w' gi 74 #[.int .u8 0, .bool false] ∧ Blk w' gb 95 #[.int .u8 0] ∧ Blk w' gt 91 #[.int .i64 0, .int .u8 0, .int .u8 0, .bool false] ∧ w'.cell? ⟨B, 0, none⟩ = some (.slice A1 n1 c1) ∧ w'.cell? ⟨B, 1, none⟩ = some (.slice A2 n2 c2) ∧ w'.cell? ⟨B, 2, none⟩ = some (.slice A3 n3 c3) ∧ Blk w' gl 93 #[.slice Ae n ce, .int .i64 0, .bool false, .bool false, .bool false, .bool false, .bool false]) _ := ⟨N7.out, N6.out, N5.out, N4.out, N3.out, N1.out, FF.out.cell 0, FF.out.cell 1, FF.out.cell 2, LL.out⟩
  refine rg_take (i := 26) (d := some 50) (l := #[true, true, true, true, true, true, true, true, true, true, true, true, true, true, true, true, true, true, true, true, true, true, true, true, true, true, true, false, false, true, false, false]) (fuel := 4) (v := .agg #[giveV bc, .int .i64 0]) rfl (by kernel_rfl) (by kernel_rfl) (by kernel_rfl) (by kernel_rfl) (by kernel_rfl) (fun _ _ _ h => h) (by kernel_rfl) ?_ (by assumption) ?_
  · (intro wS hSw; (try dsimp only at hSw); exact exec_load_row 100 (.tmp 49) rfl gc rfl 100 #[giveV bc, .int .i64 0] (0, 0) _ hSw.1 Try.underlying100 rfl (by kernel_rfl))
  try simp only [Act.put, List.setIfInBounds_toArray, List.set_cons_zero, List.set_cons_succ]
  refine rg_take (i := 27) (d := some 51) (l := #[true, true, true, true, true, true, true, true, true, true, true, true, true, true, true, true, true, true, true, true, true, true, true, true, true, true, true, true, false, true, false, false]) (fuel := 3) (v := ?_) rfl (by kernel_rfl) (by kernel_rfl) (by kernel_rfl) (by kernel_rfl) (by kernel_rfl) (fun _ _ _ h => h) (by kernel_rfl) ?_ (by assumption) ?_
  rotate_left 1
  · (intro wS hSw; (try dsimp only at hSw); go_simp; try with_reducible rfl)
  try simp only [Act.put, List.setIfInBounds_toArray, List.set_cons_zero, List.set_cons_succ]
  unfold giveV
  refine rg_next (i := 28) (l := #[true, true, true, true, true, true, true, true, true, true, true, true, true, true, true, true, true, true, true, true, true, true, true, true, true, true, true, true, true, true, false, false]) (fuel := 2) (by kernel_rfl) rfl (by kernel_rfl) (by kernel_rfl) (fun K hK => ?_)
  go_simp
  have b12 : Below w11.heap.size w11 (w11.alloc (.cells (hpC ⟨n, es, n1, z1, n2, z2, n3, z3⟩ ⟨bv, bc, bp⟩ Ae ce Hp.new) 108)) := (Below.refl _ _).alloc (Nat.le_refl _) _
  have N8 := Lib.hid (Blk.new w11 108 (hpC ⟨n, es, n1, z1, n2, z2, n3, z3⟩ ⟨bv, bc, bp⟩ Ae ce Hp.new))
  have O8 : Hid (HPo (w11.alloc (.cells (hpC ⟨n, es, n1, z1, n2, z2, n3, z3⟩ ⟨bv, bc, bp⟩ Ae ce Hp.new) 108)) ⟨n, es, n1, z1, n2, z2, n3, z3⟩ ⟨bv, bc, bp⟩ Ae ce Hp.new) := Lib.hid ⟨EE.out.keep b12, M6.out.kp (Kp.of_below (L := []) b12) (fun y hy => by cases hy) (by simp), M7.out.kp (Kp.of_below (L := []) b12) (fun y hy => by cases hy) (by simp), M5.out.kp (Kp.of_below (L := []) b12) (fun y hy => by cases hy) (by simp), ⟨(by dsimp only; omega), (by dsimp only; omega), (by dsimp only; omega)⟩, Hp.new_ok _, HG.out⟩
  have v8 : B + 1 < w11.heap.size := (by have := N7.out.lt; omega)
  have B8 := Lib.hid (BB.out.trans (b12.mono (by omega)))
  have F8 := Lib.hid (FF.out.below b12 FF.out.lt)
  have G8 := Lib.hid (GG.out.below b12 GG.out.lt)
  have L8 := Lib.hid (LL.out.below b12 LL.out.lt)
  clear EE M5 M6 M7 HR1 HR2 HR3 HRE
  first | (refine hK.out _ _ ?_ (fun hHeld => ?_)) | (go_wp2_with fail; refine hK.out _ _ ?_ (fun hHeld => ?_))
  · (try dsimp only); exact ⟨N7.out.below b12 N7.out.lt, N6.out.below b12 N6.out.lt, N5.out.below b12 N5.out.lt, N4.out.below b12 N4.out.lt, N3.out.below b12 N3.out.lt, N1.out.below b12 N1.out.lt, F8.out.cell 0, F8.out.cell 1, F8.out.cell 2, L8.out⟩
  clear hK K
  try simp only [Act.put, List.setIfInBounds_toArray, List.set_cons_zero, List.set_cons_succ]
  refine rg_take (i := 30) (d := some 4) (l := #[true, true, true, true, true, true, true, true, true, true, true, true, true, true, true, true, true, true, true, true, true, true, true, true, true, true, true, true, true, true, true, false]) (fuel := 1) (v := ?_) rfl (by kernel_rfl) (by kernel_rfl) (by kernel_rfl) (by kernel_rfl) (by kernel_rfl) (fun _ _ _ h => h) (by kernel_rfl) ?_ (by assumption) ?_
  rotate_left 1
  · (intro wS hSw; (try dsimp only at hSw); go_simp; try with_reducible rfl)
  try simp only [Act.put, List.setIfInBounds_toArray, List.set_cons_zero, List.set_cons_succ]
  obtain ⟨w12, hw12⟩ : ∃ w12, w11.alloc (.cells (hpC ⟨n, es, n1, z1, n2, z2, n3, z3⟩ ⟨bv, bc, bp⟩ Ae ce Hp.new) 108) = w12 := ⟨_, rfl⟩
  rw [hw12] at N8 O8 B8 F8 G8 L8 b12
  simp only [hpC, hpL, hpX, Hp.new, Tm.new, upTo, giveV] at hw12
  first | rw [hw12] | (have hw13 := hw12; dsimp only at hw13; rw [hw13]) | (show wpAnyH _ _ _ _ _ _ _ _ (w11.alloc (.cells (hpC ⟨n, es, n1, z1, n2, z2, n3, z3⟩ ⟨bv, bc, bp⟩ Ae ce Hp.new) 108)); rw [show w11.alloc (.cells (hpC ⟨n, es, n1, z1, n2, z2, n3, z3⟩ ⟨bv, bc, bp⟩ Ae ce Hp.new) 108) = w12 from hw12])
  have e0 : w12.cell? ⟨B + 1, 0, none⟩ = some (.int .i64 0) := G8.out.cell 0
  have e1 : w12.cell? ⟨B + 1, 1, none⟩ = some (.int .i64 0) := G8.out.cell 1
  have f0 := G8.out.frozen 0
  have f1 := G8.out.frozen 1
  refine rg_next (i := 31) (l := #[true, true, true, true, true, true, true, true, true, true, true, true, true, true, true, true, true, true, true, true, true, true, true, true, true, true, true, true, true, true, true, true]) (fuel := 0) (by kernel_rfl) rfl (by kernel_rfl) (by kernel_rfl) (fun K hK => ?_)
  go_simp
  skip
  first | (refine hK.out _ _ ?_ (fun hHeld => ?_)) | (go_wp2_with fail; refine hK.out _ _ ?_ (fun hHeld => ?_))
  · (try dsimp only); exact ⟨(((N7.out.below b12 N7.out.lt).far (by simp; omega) _).far (by simp; omega) _), (((N6.out.below b12 N6.out.lt).far (by simp; omega) _).far (by simp; omega) _), (((N5.out.below b12 N5.out.lt).far (by simp; omega) _).far (by simp; omega) _), (((N4.out.below b12 N4.out.lt).far (by simp; omega) _).far (by simp; omega) _), (((N3.out.below b12 N3.out.lt).far (by simp; omega) _).far (by simp; omega) _), (((N1.out.below b12 N1.out.lt).far (by simp; omega) _).far (by simp; omega) _), ((F8.out.far (by simp) _).far (by simp) _).cell 0, ((F8.out.far (by simp) _).far (by simp) _).cell 1, ((F8.out.far (by simp) _).far (by simp) _).cell 2, ((L8.out.far (by simp; omega) _).far (by simp; omega) _)⟩
  clear hK K
  try simp only [Act.put, List.setIfInBounds_toArray, List.set_cons_zero, List.set_cons_succ]
  refine wpAnyH_done (by kernel_rfl) ?_ _
  have NB := (G8.out.set_ 0 (.int .i64 0)).set_ 1 (.int .i64 0)
  have KB : Kp [B + 1] w12 ((w12.setCell ⟨B + 1, 0, none⟩ (.int .i64 0)).setCell ⟨B + 1, 1, none⟩ (.int .i64 0)) := ((Kp.refl _ _).setCell (.inl (by simp)) _).setCell (.inl (by simp)) _
  have hlg : B + 1 ≠ w11.heap.size := by omega
  have H9 : Hid (HP ((w12.setCell ⟨B + 1, 0, none⟩ (.int .i64 0)).setCell ⟨B + 1, 1, none⟩ (.int .i64 0)) w11.heap.size ⟨n, es, n1, z1, n2, z2, n3, z3⟩ ⟨bv, bc, bp⟩ Hp.new) := Lib.hid (HP.kp (L := [B + 1]) ⟨Ae, ce, N8.out, O8.out⟩ KB (fun y hy => by obtain rfl := List.mem_singleton.1 hy; exact ⟨_, _, G8.out, by decide, by decide⟩) (by simp; omega))
  have B9 := Lib.hid ((B8.out.setCell (p := ⟨B + 1, 0, none⟩) (by simp) (.int .i64 0)).setCell (p := ⟨B + 1, 1, none⟩) (by simp) (.int .i64 0))
  simp only [List.setIfInBounds_toArray, List.set_cons_zero, List.set_cons_succ] at NB
  clear hHeld e0 e1 f0 f1
  have hvv : B ≤ w11.heap.size ∧ B ≤ bv ∧ B ≤ bc ∧ B ≤ bp := by omega
  generalize World.setCell (World.setCell _ _ _) _ _ = wz at *
  have z0 : wz.cell? ⟨B + 1, 0, none⟩ = some (.int .i64 0) := NB.cell 0
  have z1' : wz.cell? ⟨B + 1, 1, none⟩ = some (.int .i64 0) := NB.cell 1
  clear NB KB
  go_wp2_with fail
  refine bodyPost_ret (v := .tuple #[.pointer (some ⟨w11.heap.size, 0, none⟩), .agg #[.int .i64 0, .int .i64 0]]) (by simp [results, Try.results21, go_sem, z0, z1']) rfl ?_
  exact ⟨w11.heap.size, ⟨bv, bc, bp⟩, rfl, by rw [HBB.out]; exact hvv, H9.out, by rw [HBB.out]; exact B9.out⟩
end
end Go.Proofs.Ytjknjlkjpccibaa
namespace Go.Proofs.Ytjknjlkjpccibaa
open Go.RowKit
set_option linter.unusedVariables false
set_option linter.unusedSimpArgs false
set_option maxRecDepth 100000
def HpR (v : Value) (g : Nat) (d : Hd) (b : Hb) (y : Hp) (L : List Nat) (w : World) (e : Ending) (w' : World) : Prop := e = .returned v ∧ HP w' g d b y ∧ Kp L w w'
def Hp.to (d : Hd) (x : Hp) (t : Int) : Hp :=
  if t ≤ x.now then x else { x with tm := x.tm.goN (t - x.now).toNat, q := if 0 < x.tm.overN (t - x.now).toNat then ⟨x.q.d, true⟩ else x.q, s := pass d.es d.n t x.s, ro := roseTo d.es x.ro x.s (pass d.es d.n t x.s - x.s), now := t }
section
variable {w : World} {g : Nat} {d : Hd} {b : Hb} {x : Hp}
set_option maxHeartbeats 4000000 in
theorem hgo_any (h : HP w g d b x) (t : Int) (ht : t ≤ 9223372036854775807) :
    Calls Try.prog 26 #[.pointer (some ⟨g, 0, none⟩), .int .i64 t] w (HpR (.tuple #[]) g d b (x.to d t) [g] w) := by
  have c0 := h.nw.1
  have n0 : 0 ≤ x.now := h.ok.2.2.2.2.2
  have H := Lib.hid h
  clear h
  by_cases hle : t ≤ x.now
  · have e : x.to d t = x := by unfold Hp.to; rw [if_pos hle]
    rw [e]
    clear e
    go_enter Try.func26, Try.ntmps26
    go_wp2
    first | go_end0 | refine bodyPost_ret (results_none rfl _ _ _) rfl ?_
    exact ⟨rfl, H.out, Kp.refl _ _⟩
  · have hlt : x.now < t := by omega
    have e : x.to d t = { x with tm := x.tm.goN (t - x.now).toNat, q := if 0 < x.tm.overN (t - x.now).toNat then ⟨x.q.d, true⟩ else x.q, s := pass d.es d.n t x.s, ro := roseTo d.es x.ro x.s (pass d.es d.n t x.s - x.s), now := t } := by unfold Hp.to; rw [if_neg hle]
    have hd : t - x.now ≤ 9223372036854775807 := by omega
    have hwr : IntKind.i64.wrap (t - x.now) = t - x.now := IntWalk.i64_in _ (by omega)
    obtain ⟨cs, ht1, ht2⟩ := H.out.tmr
    have HT1 := Lib.hid ht1
    have HT2 := Lib.hid ht2
    obtain ⟨N, hN⟩ : ∃ N, x.tm.overN (t - x.now).toNat = N := ⟨_, rfl⟩
    rw [hN] at e
    have HN := Lib.hid hN
    have HE := Lib.hid e
    clear e ht1 ht2 hN
    go_enter Try.func26, Try.ntmps26
    go_wp2_with fail
    refine rg_begin (S := fun w' => w'.cell? ⟨g, 22, none⟩ = some (.int .i64 x.now)) 11 #[false, false, false, false, false, false, false, false, false, false, false] (by kernel_rfl) (by kernel_rfl) (by kernel_rfl) ?_ (fun hHeld => ?_)
    · exact c0
    refine rg_take (i := 0) (d := some 14) (l := #[true, false, false, false, false, false, false, false, false, false, false]) (fuel := 10) (v := ?_) rfl (by kernel_rfl) (by kernel_rfl) (by kernel_rfl) (by kernel_rfl) (by kernel_rfl) (fun _ _ _ h => h) (by kernel_rfl) ?_ (by assumption) ?_
    rotate_left 1
    · (intro wS hSw; (try dsimp only at hSw); go_simp; try with_reducible rfl)
    try simp only [Act.put, List.setIfInBounds_toArray, List.set_cons_zero, List.set_cons_succ]
    refine rg_take (i := 1) (d := some 15) (l := #[true, true, false, false, false, false, false, false, false, false, false]) (fuel := 9) (v := ?_) rfl (by kernel_rfl) (by kernel_rfl) (by kernel_rfl) (by kernel_rfl) (by kernel_rfl) (fun _ _ _ h => h) (by kernel_rfl) ?_ (by assumption) ?_
    rotate_left 1
    · (intro wS hSw; (try dsimp only at hSw); go_simp; try with_reducible rfl)
    try simp only [Act.put, List.setIfInBounds_toArray, List.set_cons_zero, List.set_cons_succ]
    refine rg_take (i := 2) (d := some 16) (l := #[true, true, true, false, false, false, false, false, false, false, false]) (fuel := 8) (v := ?_) rfl (by kernel_rfl) (by kernel_rfl) (by kernel_rfl) (by kernel_rfl) (by kernel_rfl) (fun _ _ _ h => h) (by kernel_rfl) ?_ (by assumption) ?_
    rotate_left 1
    · (intro wS hSw; (try dsimp only at hSw); go_simp; try with_reducible rfl)
    try simp only [Act.put, List.setIfInBounds_toArray, List.set_cons_zero, List.set_cons_succ]
    refine rg_take (i := 3) (d := some 17) (l := #[true, true, true, true, false, false, false, false, false, false, false]) (fuel := 7) (v := ?_) rfl (by kernel_rfl) (by kernel_rfl) (by kernel_rfl) (by kernel_rfl) (by kernel_rfl) (fun _ _ _ h => h) (by kernel_rfl) ?_ (by assumption) ?_
    rotate_left 1
    · (intro wS hSw; (try dsimp only at hSw); go_simp; try with_reducible rfl)
    try simp only [Act.put, List.setIfInBounds_toArray, List.set_cons_zero, List.set_cons_succ]
    refine rg_take (i := 4) (d := some 18) (l := #[true, true, true, true, true, false, false, false, false, false, false]) (fuel := 6) (v := ?_) rfl (by kernel_rfl) (by kernel_rfl) (by kernel_rfl) (by kernel_rfl) (by kernel_rfl) (fun _ _ _ h => h) (by kernel_rfl) ?_ (by assumption) ?_
    rotate_left 1
    · (intro wS hSw; (try dsimp only at hSw); go_simp; try with_reducible rfl)
    try simp only [Act.put, List.setIfInBounds_toArray, List.set_cons_zero, List.set_cons_succ]
    refine rg_take (i := 5) (d := some 19) (l := #[true, true, true, true, true, true, false, false, false, false, false]) (fuel := 5) (v := ?_) rfl (by kernel_rfl) (by kernel_rfl) (by kernel_rfl) (by kernel_rfl) (by kernel_rfl) (fun _ _ _ h => h) (by kernel_rfl) ?_ (by assumption) ?_
    rotate_left 1
    · (intro wS hSw; (try dsimp only at hSw); go_simp; try with_reducible rfl)
    try simp only [Act.put, List.setIfInBounds_toArray, List.set_cons_zero, List.set_cons_succ]
    refine rg_take (i := 6) (d := some 20) (l := #[true, true, true, true, true, true, true, false, false, false, false]) (fuel := 4) (v := ?_) rfl (by kernel_rfl) (by kernel_rfl) (by kernel_rfl) (by kernel_rfl) (by kernel_rfl) (fun _ _ _ h => h) (by kernel_rfl) ?_ (by assumption) ?_
    rotate_left 1
    · (intro wS hSw; (try dsimp only at hSw); go_simp; try with_reducible rfl)
    try simp only [Act.put, List.setIfInBounds_toArray, List.set_cons_zero, List.set_cons_succ]
    refine rg_take (i := 7) (d := some 21) (l := #[true, true, true, true, true, true, true, true, false, false, false]) (fuel := 3) (v := ?_) rfl (by kernel_rfl) (by kernel_rfl) (by kernel_rfl) (by kernel_rfl) (by kernel_rfl) (fun _ _ _ h => h) (by kernel_rfl) ?_ (by assumption) ?_
    rotate_left 1
    · (intro wS hSw; (try dsimp only at hSw); go_simp; try with_reducible rfl)
    try simp only [Act.put, List.setIfInBounds_toArray, List.set_cons_zero, List.set_cons_succ]
    refine rg_take (i := 8) (d := some 22) (l := #[true, true, true, true, true, true, true, true, true, false, false]) (fuel := 2) (v := ?_) rfl (by kernel_rfl) (by kernel_rfl) (by kernel_rfl) (by kernel_rfl) (by kernel_rfl) (fun _ _ _ h => h) (by kernel_rfl) ?_ (by assumption) ?_
    rotate_left 1
    · (intro wS hSw; (try dsimp only at hSw); go_simp; try with_reducible rfl)
    try simp only [Act.put, List.setIfInBounds_toArray, List.set_cons_zero, List.set_cons_succ]
    try rw [hwr]
    refine rg_next (i := 9) (l := #[true, true, true, true, true, true, true, true, true, true, false]) (fuel := 1) (by kernel_rfl) rfl (by kernel_rfl) (by kernel_rfl) (fun K hK => ?_)
    go_simp
    (go_at_call 56)
    refine (tgo_any (HT1.out.kp (Kp.refl [] w).drew (by simp)) (t - x.now) hd).mono ?_
    rw [HN.out]
    rintro e w1 ⟨rfl, y1, y2⟩
    replace y2 : Kp [g] w w1 := ((Kp.refl [g] w).drew).trans y2 (by simp)
    have H1 := Lib.hid (HT2.out _ _ y1 y2)
    have K1 := Lib.hid y2
    have c1 := H1.out.nw.1
    dsimp only at c1
    clear y1 y2 c0 HT1 HT2
    first | (refine hK.out _ _ ?_ (fun hHeld => ?_)) | (go_wp2_with fail; refine hK.out _ _ ?_ (fun hHeld => ?_))
    · (try dsimp only); exact c1
    clear hK K
    try simp only [Act.put, List.setIfInBounds_toArray, List.set_cons_zero, List.set_cons_succ]
    refine rg_take (i := 10) (d := some 24) (l := #[true, true, true, true, true, true, true, true, true, true, true]) (fuel := 0) (v := ?_) rfl (by kernel_rfl) (by kernel_rfl) (by kernel_rfl) (by kernel_rfl) (by kernel_rfl) (fun _ _ _ h => h) (by kernel_rfl) ?_ (by assumption) ?_
    rotate_left 1
    · (intro wS hSw; (try dsimp only at hSw); go_simp; try with_reducible rfl)
    try simp only [Act.put, List.setIfInBounds_toArray, List.set_cons_zero, List.set_cons_succ]
    refine wpAnyH_done (by kernel_rfl) ?_ _
    clear hHeld c1
    obtain ⟨y, hy⟩ : ∃ y : Hp, { x with tm := x.tm.goN (t - x.now).toNat, q := if 0 < N then ⟨x.q.d, true⟩ else x.q } = y := ⟨_, rfl⟩
    have HY := Lib.hid hy
    have fin : ∀ w2 w3, HP w2 g d b y → Kp [g] w w2 → HLnR (hpX b y) (.tuple #[]) g d.n d.es (pass d.es d.n t y.s) (roseTo d.es y.ro y.s (pass d.es d.n t y.s - y.s)) w2 (.returned (.tuple #[])) w3 →
        HP w3 g d b { y with s := pass d.es d.n t y.s, ro := roseTo d.es y.ro y.s (pass d.es d.n t y.s - y.s) } ∧ Kp [g] w w3 := fun w2 w3 h2 k2 h3 => by
      obtain ⟨_, h4, k4⟩ := h3
      exact ⟨h2.lns.2 _ _ _ h4 k4, k2.trans k4 (by simp)⟩
    have FIN := Lib.hid fin
    clear hy fin
    by_cases h0 : 0 < N
    · have hp : (0 : Int) < (N : Int) := by omega
      go_wp2_with fail
      obtain ⟨cs2, q1, q2⟩ := H1.out.irq
      have Q2 := Lib.hid q2
      refine (qover_any q1).mono ?_
      rintro e w2 ⟨rfl, y1, y2⟩
      have H2 : Hid (HP w2 g d b y) := Lib.hid (by have := Q2.out _ _ y1 y2; rw [← HY.out, if_pos h0]; exact this)
      have K2 := Lib.hid (K1.out.trans y2 (by simp))
      clear y1 y2 q1 q2 Q2 H1 K1
      go_wp2_with fail
      refine (hto_any H2.out.lns.1 H2.out.gd t).mono ?_
      rintro e w3 h3
      obtain rfl := h3.1
      have F := Lib.hid (FIN.out _ _ H2.out K2.out h3)
      clear h3 H2 K2 FIN
      obtain ⟨c2, f2, _⟩ := F.out.1.nw
      go_wp2
      first | go_end0 | refine bodyPost_ret (results_none rfl _ _ _) rfl ?_
      obtain ⟨r1, r2⟩ := F.out.1.nw.2.2 t (by omega)
      refine ⟨rfl, ?_, F.out.2.trans r2 (by simp)⟩
      rw [HE.out]
      have := HY.out
      subst this
      exact r1
    · have hp : ¬ (0 : Int) < (N : Int) := by omega
      have H2 : Hid (HP w1 g d b y) := Lib.hid (by have := H1.out; rw [← HY.out, if_neg h0]; exact this)
      have K2 := K1
      clear H1 K1
      go_wp2_with fail
      refine (hto_any H2.out.lns.1 H2.out.gd t).mono ?_
      rintro e w3 h3
      obtain rfl := h3.1
      have F := Lib.hid (FIN.out _ _ H2.out K2.out h3)
      clear h3 H2 K2 FIN
      obtain ⟨c2, f2, _⟩ := F.out.1.nw
      go_wp2
      first | go_end0 | refine bodyPost_ret (results_none rfl _ _ _) rfl ?_
      obtain ⟨r1, r2⟩ := F.out.1.nw.2.2 t (by omega)
      refine ⟨rfl, ?_, F.out.2.trans r2 (by simp)⟩
      rw [HE.out]
      have := HY.out
      subst this
      exact r1
end
end Go.Proofs.Ytjknjlkjpccibaa
namespace Go.Proofs.Ytjknjlkjpccibaa
open Go.RowKit
set_option linter.unusedVariables false
set_option linter.unusedSimpArgs false
set_option maxRecDepth 100000
def Hp.ch (d : Hd) (x : Hp) (m : Bool) : Int := chI x.q.d x.q.due (upTo d.es x.s 0) x.ro (upTo d.es x.s 2) (upTo d.es x.s 3) m
def Hp.en (x : Hp) (k : Int) : Hp := if k = 2 then { x with ro := false } else if k = 1 then { x with tm := x.tm.wr 1 0, q := (x.q.wr 2 0).wr 3 0 } else x
theorem hup_v {X : Nat → Value} {w : World} {g n : Nat} {es : Nat → Iib} {s : Nat} {r : Bool} (h : LNH X w g n es s r) (j : Nat) (hj : j < 4) {k : Int} (hk : (j : Int) = k) {u : Bool} (e : upTo es s k = u) :
    Calls Try.prog 65 #[.pointer (some ⟨g, 4, none⟩), .int .u8 k] w fun e w' => e = .returned (.bool u) ∧ w = w' := by
  have := hup_any h j (by omega)
  unfold upV at this
  rw [if_pos hj, hk, e] at this
  exact this
theorem hrose_v {X : Nat → Value} {w : World} {g n : Nat} {es : Nat → Iib} {s : Nat} {r : Bool} (h : LNH X w g n es s r) {u : Bool} (e : r = u) :
    Calls Try.prog 62 #[.pointer (some ⟨g, 4, none⟩)] w fun e w' => e = .returned (.bool u) ∧ w = w' := e ▸ hrose_any h
theorem qchoose_iv {w : World} {g : Nat} {T : TypeId} {cs : Array Value} {o : Nat} {s : Iq} (h : IQ w g T cs o s) {u0 u1 u2 u3 m : Bool} {x : Int} (e : chI s.d s.due u0 u1 u2 u3 m = x) :
    Calls Try.prog 14 #[.pointer (some ⟨g, o, none⟩), .agg #[.bool u0, .bool u1, .bool u2, .bool u3], .bool m] w fun e w' => e = .returned (.int .u8 x) ∧ Below w.heap.size w w' := e ▸ qchoose_any h u0 u1 u2 u3 m
section
variable {w : World} {g : Nat} {d : Hd} {b : Hb} {x : Hp}
set_option maxHeartbeats 4000000 in
theorem hchoose_any (h : HP w g d b x) (m : Bool) :
    Calls Try.prog 28 #[.pointer (some ⟨g, 0, none⟩), .bool m] w fun e w' => e = .returned (.int .u8 (x.ch d m)) ∧ Below w.heap.size w w' := by
  have H := Lib.hid (h.kp0 (Kp.refl _ _).drew)
  obtain ⟨u0, h0⟩ : ∃ u, upTo d.es x.s 0 = u := ⟨_, rfl⟩
  obtain ⟨u2, h2⟩ : ∃ u, upTo d.es x.s 2 = u := ⟨_, rfl⟩
  obtain ⟨u3, h3⟩ : ∃ u, upTo d.es x.s 3 = u := ⟨_, rfl⟩
  obtain ⟨ro, hr⟩ : ∃ u, x.ro = u := ⟨_, rfl⟩
  obtain ⟨v, hv⟩ : ∃ v, x.ch d m = v := ⟨_, rfl⟩
  have hv2 : chI x.q.d x.q.due u0 ro u2 u3 m = v := by rw [← hv, ← h0, ← h2, ← h3, ← hr]; rfl
  rw [hv]
  have H0 := Lib.hid h0
  have H2 := Lib.hid h2
  have H3 := Lib.hid h3
  have HR := Lib.hid hr
  have HV := Lib.hid hv2
  clear h h0 h2 h3 hr hv hv2
  go_enter Try.func28, Try.ntmps28
  go_wp2_with fail
  refine rg_begin (S := fun w' => True) 23 #[false, false, false, false, false, false, false, false, false, false, false, false, false, false, false, false, false, false, false, false, false, false, false] (by kernel_rfl) (by kernel_rfl) (by kernel_rfl) ?_ (fun hHeld => ?_)
  · exact trivial
  refine rg_take (i := 0) (d := some 7) (l := #[true, false, false, false, false, false, false, false, false, false, false, false, false, false, false, false, false, false, false, false, false, false, false]) (fuel := 22) (v := ?_) rfl (by kernel_rfl) (by kernel_rfl) (by kernel_rfl) (by kernel_rfl) (by kernel_rfl) (fun _ _ _ h => h) (by kernel_rfl) ?_ (by assumption) ?_
  rotate_left 1
  · (intro wS hSw; (try dsimp only at hSw); go_simp; try with_reducible rfl)
  try simp only [Act.put, List.setIfInBounds_toArray, List.set_cons_zero, List.set_cons_succ]
  refine rg_take (i := 1) (d := some 8) (l := #[true, true, false, false, false, false, false, false, false, false, false, false, false, false, false, false, false, false, false, false, false, false, false]) (fuel := 21) (v := ?_) rfl (by kernel_rfl) (by kernel_rfl) (by kernel_rfl) (by kernel_rfl) (by kernel_rfl) (fun _ _ _ h => h) (by kernel_rfl) ?_ (by assumption) ?_
  rotate_left 1
  · (intro wS hSw; (try dsimp only at hSw); go_simp; try with_reducible rfl)
  try simp only [Act.put, List.setIfInBounds_toArray, List.set_cons_zero, List.set_cons_succ]
  refine rg_take (i := 2) (d := some 9) (l := #[true, true, true, false, false, false, false, false, false, false, false, false, false, false, false, false, false, false, false, false, false, false, false]) (fuel := 20) (v := ?_) rfl (by kernel_rfl) (by kernel_rfl) (by kernel_rfl) (by kernel_rfl) (by kernel_rfl) (fun _ _ _ h => h) (by kernel_rfl) ?_ (by assumption) ?_
  rotate_left 1
  · (intro wS hSw; (try dsimp only at hSw); go_simp; try with_reducible rfl)
  try simp only [Act.put, List.setIfInBounds_toArray, List.set_cons_zero, List.set_cons_succ]
  refine rg_take (i := 3) (d := some 10) (l := #[true, true, true, true, false, false, false, false, false, false, false, false, false, false, false, false, false, false, false, false, false, false, false]) (fuel := 19) (v := ?_) rfl (by kernel_rfl) (by kernel_rfl) (by kernel_rfl) (by kernel_rfl) (by kernel_rfl) (fun _ _ _ h => h) (by kernel_rfl) ?_ (by assumption) ?_
  rotate_left 1
  · (intro wS hSw; (try dsimp only at hSw); go_simp; try with_reducible rfl)
  try simp only [Act.put, List.setIfInBounds_toArray, List.set_cons_zero, List.set_cons_succ]
  refine rg_take (i := 4) (d := some 11) (l := #[true, true, true, true, true, false, false, false, false, false, false, false, false, false, false, false, false, false, false, false, false, false, false]) (fuel := 18) (v := ?_) rfl (by kernel_rfl) (by kernel_rfl) (by kernel_rfl) (by kernel_rfl) (by kernel_rfl) (fun _ _ _ h => h) (by kernel_rfl) ?_ (by assumption) ?_
  rotate_left 1
  · (intro wS hSw; (try dsimp only at hSw); go_simp; try with_reducible rfl)
  try simp only [Act.put, List.setIfInBounds_toArray, List.set_cons_zero, List.set_cons_succ]
  refine rg_take (i := 5) (d := some 12) (l := #[true, true, true, true, true, true, false, false, false, false, false, false, false, false, false, false, false, false, false, false, false, false, false]) (fuel := 17) (v := ?_) rfl (by kernel_rfl) (by kernel_rfl) (by kernel_rfl) (by kernel_rfl) (by kernel_rfl) (fun _ _ _ h => h) (by kernel_rfl) ?_ (by assumption) ?_
  rotate_left 1
  · (intro wS hSw; (try dsimp only at hSw); go_simp; try with_reducible rfl)
  try simp only [Act.put, List.setIfInBounds_toArray, List.set_cons_zero, List.set_cons_succ]
  refine rg_take (i := 7) (d := some 14) (l := #[true, true, true, true, true, true, false, true, false, false, false, false, false, false, false, false, false, false, false, false, false, false, false]) (fuel := 16) (v := ?_) rfl (by kernel_rfl) (by kernel_rfl) (by kernel_rfl) (by kernel_rfl) (by kernel_rfl) (fun _ _ _ h => h) (by kernel_rfl) ?_ (by assumption) ?_
  rotate_left 1
  · (intro wS hSw; (try dsimp only at hSw); go_simp; try with_reducible rfl)
  try simp only [Act.put, List.setIfInBounds_toArray, List.set_cons_zero, List.set_cons_succ]
  refine rg_take (i := 8) (d := some 15) (l := #[true, true, true, true, true, true, false, true, true, false, false, false, false, false, false, false, false, false, false, false, false, false, false]) (fuel := 15) (v := ?_) rfl (by kernel_rfl) (by kernel_rfl) (by kernel_rfl) (by kernel_rfl) (by kernel_rfl) (fun _ _ _ h => h) (by kernel_rfl) ?_ (by assumption) ?_
  rotate_left 1
  · (intro wS hSw; (try dsimp only at hSw); go_simp; try with_reducible rfl)
  try simp only [Act.put, List.setIfInBounds_toArray, List.set_cons_zero, List.set_cons_succ]
  refine rg_take (i := 9) (d := some 16) (l := #[true, true, true, true, true, true, false, true, true, true, false, false, false, false, false, false, false, false, false, false, false, false, false]) (fuel := 14) (v := ?_) rfl (by kernel_rfl) (by kernel_rfl) (by kernel_rfl) (by kernel_rfl) (by kernel_rfl) (fun _ _ _ h => h) (by kernel_rfl) ?_ (by assumption) ?_
  rotate_left 1
  · (intro wS hSw; (try dsimp only at hSw); go_simp; try with_reducible rfl)
  try simp only [Act.put, List.setIfInBounds_toArray, List.set_cons_zero, List.set_cons_succ]
  refine rg_take (i := 11) (d := some 18) (l := #[true, true, true, true, true, true, false, true, true, true, false, true, false, false, false, false, false, false, false, false, false, false, false]) (fuel := 13) (v := ?_) rfl (by kernel_rfl) (by kernel_rfl) (by kernel_rfl) (by kernel_rfl) (by kernel_rfl) (fun _ _ _ h => h) (by kernel_rfl) ?_ (by assumption) ?_
  rotate_left 1
  · (intro wS hSw; (try dsimp only at hSw); go_simp; try with_reducible rfl)
  try simp only [Act.put, List.setIfInBounds_toArray, List.set_cons_zero, List.set_cons_succ]
  refine rg_take (i := 12) (d := some 19) (l := #[true, true, true, true, true, true, false, true, true, true, false, true, true, false, false, false, false, false, false, false, false, false, false]) (fuel := 12) (v := ?_) rfl (by kernel_rfl) (by kernel_rfl) (by kernel_rfl) (by kernel_rfl) (by kernel_rfl) (fun _ _ _ h => h) (by kernel_rfl) ?_ (by assumption) ?_
  rotate_left 1
  · (intro wS hSw; (try dsimp only at hSw); go_simp; try with_reducible rfl)
  try simp only [Act.put, List.setIfInBounds_toArray, List.set_cons_zero, List.set_cons_succ]
  refine rg_take (i := 13) (d := some 20) (l := #[true, true, true, true, true, true, false, true, true, true, false, true, true, true, false, false, false, false, false, false, false, false, false]) (fuel := 11) (v := ?_) rfl (by kernel_rfl) (by kernel_rfl) (by kernel_rfl) (by kernel_rfl) (by kernel_rfl) (fun _ _ _ h => h) (by kernel_rfl) ?_ (by assumption) ?_
  rotate_left 1
  · (intro wS hSw; (try dsimp only at hSw); go_simp; try with_reducible rfl)
  try simp only [Act.put, List.setIfInBounds_toArray, List.set_cons_zero, List.set_cons_succ]
  refine rg_take (i := 15) (d := some 22) (l := #[true, true, true, true, true, true, false, true, true, true, false, true, true, true, false, true, false, false, false, false, false, false, false]) (fuel := 10) (v := ?_) rfl (by kernel_rfl) (by kernel_rfl) (by kernel_rfl) (by kernel_rfl) (by kernel_rfl) (fun _ _ _ h => h) (by kernel_rfl) ?_ (by assumption) ?_
  rotate_left 1
  · (intro wS hSw; (try dsimp only at hSw); go_simp; try with_reducible rfl)
  try simp only [Act.put, List.setIfInBounds_toArray, List.set_cons_zero, List.set_cons_succ]
  refine rg_take (i := 16) (d := some 23) (l := #[true, true, true, true, true, true, false, true, true, true, false, true, true, true, false, true, true, false, false, false, false, false, false]) (fuel := 9) (v := ?_) rfl (by kernel_rfl) (by kernel_rfl) (by kernel_rfl) (by kernel_rfl) (by kernel_rfl) (fun _ _ _ h => h) (by kernel_rfl) ?_ (by assumption) ?_
  rotate_left 1
  · (intro wS hSw; (try dsimp only at hSw); go_simp; try with_reducible rfl)
  try simp only [Act.put, List.setIfInBounds_toArray, List.set_cons_zero, List.set_cons_succ]
  refine rg_take (i := 17) (d := some 24) (l := #[true, true, true, true, true, true, false, true, true, true, false, true, true, true, false, true, true, true, false, false, false, false, false]) (fuel := 8) (v := ?_) rfl (by kernel_rfl) (by kernel_rfl) (by kernel_rfl) (by kernel_rfl) (by kernel_rfl) (fun _ _ _ h => h) (by kernel_rfl) ?_ (by assumption) ?_
  rotate_left 1
  · (intro wS hSw; (try dsimp only at hSw); go_simp; try with_reducible rfl)
  try simp only [Act.put, List.setIfInBounds_toArray, List.set_cons_zero, List.set_cons_succ]
  refine rg_take (i := 20) (d := some 27) (l := #[true, true, true, true, true, true, false, true, true, true, false, true, true, true, false, true, true, true, false, false, true, false, false]) (fuel := 7) (v := ?_) rfl (by kernel_rfl) (by kernel_rfl) (by kernel_rfl) (by kernel_rfl) (by kernel_rfl) (fun _ _ _ h => h) (by kernel_rfl) ?_ (by assumption) ?_
  rotate_left 1
  · (intro wS hSw; (try dsimp only at hSw); go_simp; try with_reducible rfl)
  try simp only [Act.put, List.setIfInBounds_toArray, List.set_cons_zero, List.set_cons_succ]
  refine rg_next (i := 6) (l := #[true, true, true, true, true, true, true, true, true, true, false, true, true, true, false, true, true, true, false, false, true, false, false]) (fuel := 6) (by kernel_rfl) rfl (by kernel_rfl) (by kernel_rfl) (fun K hK => ?_)
  go_simp
  (go_at_call 65)
  refine (hup_v H.out.lns.1 0 (by decide) rfl H0.out).mono ?_
  rintro e w' ⟨rfl, rfl⟩
  first | (refine hK.out _ _ ?_ (fun hHeld => ?_)) | (go_wp2_with fail; refine hK.out _ _ ?_ (fun hHeld => ?_))
  · (try dsimp only); try exact trivial
  clear hK K
  try simp only [Act.put, List.setIfInBounds_toArray, List.set_cons_zero, List.set_cons_succ]
  refine rg_next (i := 10) (l := #[true, true, true, true, true, true, true, true, true, true, true, true, true, true, false, true, true, true, false, false, true, false, false]) (fuel := 5) (by kernel_rfl) rfl (by kernel_rfl) (by kernel_rfl) (fun K hK => ?_)
  go_simp
  (go_at_call 62)
  refine (hrose_v H.out.lns.1 HR.out).mono ?_
  rintro e w' ⟨rfl, rfl⟩
  first | (refine hK.out _ _ ?_ (fun hHeld => ?_)) | (go_wp2_with fail; refine hK.out _ _ ?_ (fun hHeld => ?_))
  · (try dsimp only); try exact trivial
  clear hK K
  try simp only [Act.put, List.setIfInBounds_toArray, List.set_cons_zero, List.set_cons_succ]
  refine rg_next (i := 14) (l := #[true, true, true, true, true, true, true, true, true, true, true, true, true, true, true, true, true, true, false, false, true, false, false]) (fuel := 4) (by kernel_rfl) rfl (by kernel_rfl) (by kernel_rfl) (fun K hK => ?_)
  go_simp
  (go_at_call 65)
  refine (hup_v H.out.lns.1 2 (by decide) rfl H2.out).mono ?_
  rintro e w' ⟨rfl, rfl⟩
  first | (refine hK.out _ _ ?_ (fun hHeld => ?_)) | (go_wp2_with fail; refine hK.out _ _ ?_ (fun hHeld => ?_))
  · (try dsimp only); try exact trivial
  clear hK K
  try simp only [Act.put, List.setIfInBounds_toArray, List.set_cons_zero, List.set_cons_succ]
  refine rg_next (i := 18) (l := #[true, true, true, true, true, true, true, true, true, true, true, true, true, true, true, true, true, true, true, false, true, false, false]) (fuel := 3) (by kernel_rfl) rfl (by kernel_rfl) (by kernel_rfl) (fun K hK => ?_)
  go_simp
  (go_at_call 65)
  refine (hup_v H.out.lns.1 3 (by decide) rfl H3.out).mono ?_
  rintro e w' ⟨rfl, rfl⟩
  first | (refine hK.out _ _ ?_ (fun hHeld => ?_)) | (go_wp2_with fail; refine hK.out _ _ ?_ (fun hHeld => ?_))
  · (try dsimp only); try exact trivial
  clear hK K
  try simp only [Act.put, List.setIfInBounds_toArray, List.set_cons_zero, List.set_cons_succ]
  refine rg_take (i := 19) (d := some 26) (l := #[true, true, true, true, true, true, true, true, true, true, true, true, true, true, true, true, true, true, true, true, true, false, false]) (fuel := 2) (v := ?_) rfl (by kernel_rfl) (by kernel_rfl) (by kernel_rfl) (by kernel_rfl) (by kernel_rfl) (fun _ _ _ h => h) (by kernel_rfl) ?_ (by assumption) ?_
  rotate_left 1
  · (intro wS hSw; (try dsimp only at hSw); go_simp; try with_reducible rfl)
  try simp only [Act.put, List.setIfInBounds_toArray, List.set_cons_zero, List.set_cons_succ]
  refine rg_next (i := 21) (l := #[true, true, true, true, true, true, true, true, true, true, true, true, true, true, true, true, true, true, true, true, true, true, false]) (fuel := 1) (by kernel_rfl) rfl (by kernel_rfl) (by kernel_rfl) (fun K hK => ?_)
  go_simp
  (go_at_call 14)
  obtain ⟨cs, q1, _⟩ := H.out.irq
  refine (qchoose_iv q1 HV.out).mono ?_
  rintro e w1 ⟨rfl, b1⟩
  have B1 : Hid (Below w.heap.size w w1) := Lib.hid ((Below.refl _ w).drew.trans b1)
  clear b1 q1
  first | (refine hK.out _ _ ?_ (fun hHeld => ?_)) | (go_wp2_with fail; refine hK.out _ _ ?_ (fun hHeld => ?_))
  · (try dsimp only); try exact trivial
  clear hK K
  try simp only [Act.put, List.setIfInBounds_toArray, List.set_cons_zero, List.set_cons_succ]
  refine rg_take (i := 22) (d := some 4) (l := #[true, true, true, true, true, true, true, true, true, true, true, true, true, true, true, true, true, true, true, true, true, true, true]) (fuel := 0) (v := ?_) rfl (by kernel_rfl) (by kernel_rfl) (by kernel_rfl) (by kernel_rfl) (by kernel_rfl) (fun _ _ _ h => h) (by kernel_rfl) ?_ (by assumption) ?_
  rotate_left 1
  · (intro wS hSw; (try dsimp only at hSw); go_simp; try with_reducible rfl)
  try simp only [Act.put, List.setIfInBounds_toArray, List.set_cons_zero, List.set_cons_succ]
  refine wpAnyH_done (by kernel_rfl) ?_ _
  go_wp2_with fail
  go_ret
  exact ⟨rfl, B1.out⟩
end
end Go.Proofs.Ytjknjlkjpccibaa
namespace Go.Proofs.Ytjknjlkjpccibaa
open Go.RowKit
set_option linter.unusedVariables false
set_option linter.unusedSimpArgs false
set_option maxRecDepth 100000
def HCloneR (g : Nat) (d : Hd) (b : Hb) (x : Hp) (w : World) (e : Ending) (w' : World) : Prop :=
  ∃ g2 b2, e = .returned (.pointer (some ⟨g2, 0, none⟩)) ∧ (w.heap.size ≤ g2 ∧ w.heap.size ≤ b2.v ∧ w.heap.size ≤ b2.c ∧ w.heap.size ≤ b2.p) ∧ HP w' g2 d b2 x ∧ HP w' g d b x ∧ Kp [b.v, b.c, b.p] w w'
section
variable {w : World} {g : Nat} {d : Hd} {b : Hb} {x : Hp}
theorem Blk.kpn {w w' : World} {k : Nat} {t : TypeId} {cs : Array Value} {L : List Nat} (h : Blk w k t cs) (kp : Kp L w w') {B : Nat} (hB : B ≤ k) (hL : ∀ y ∈ L, y < B) : Blk w' k t cs := h.kp kp (fun e => by have := hL _ e; omega)
theorem Box.kpn {w w' : World} {cb n : Nat} {z : Nat → Int} {L : List Nat} (h : Box w cb n z) (kp : Kp L w w') (hT : ∀ x ∈ L, ∃ t cs, Blk w x t cs ∧ 5 ≠ t) {B : Nat} (hB : B ≤ cb) (hL : ∀ y ∈ L, y < B) : Box w' cb n z := h.kp kp hT (fun e => by have := hL _ e; omega)
theorem HP.boxOff (h : HP w g d b x) : (∃ t cs, Blk w b.v t cs ∧ 5 ≠ t ∧ 69 ≠ t) ∧ (∃ t cs, Blk w b.c t cs ∧ 5 ≠ t ∧ 69 ≠ t) ∧ (∃ t cs, Blk w b.p t cs ∧ 5 ≠ t ∧ 69 ≠ t) := by
  obtain ⟨A, c, hb, ho⟩ := h
  obtain ⟨v1, h1, _⟩ := ho.v
  obtain ⟨v2, h2, _⟩ := ho.c
  obtain ⟨v3, h3, _⟩ := ho.p
  exact ⟨⟨_, _, h1, by decide, by decide⟩, ⟨_, _, h2, by decide, by decide⟩, ⟨_, _, h3, by decide, by decide⟩⟩
end
end Go.Proofs.Ytjknjlkjpccibaa
namespace Go.Proofs.Ytjknjlkjpccibaa
open Go.RowKit
set_option linter.unusedVariables false
set_option linter.unusedSimpArgs false
set_option maxRecDepth 100000
/-- All registers. -/
def stC (x : Hp) : Array Value := #[.int .u8 x.buf, .int .u8 x.tm.r, .int .u8 x.tm.c, .int .u8 x.q.d, .int .u8 x.pt.l, .int .i64 (3072 - (x.tm.gone : Int)), .bool x.tm.on, .bool x.q.due, .bool x.ro, .int .i64 x.tv, .int .i64 x.tc, .int .i64 x.tp]
section
variable {w : World} {g : Nat} {d : Hd} {b : Hb} {x : Hp}
set_option maxHeartbeats 8000000 in
theorem hstatus_any (h : HP w g d b x) :
    Calls Try.prog 27 #[.pointer (some ⟨g, 0, none⟩)] w fun e w' => e = .returned (.agg (stC x)) ∧ Below w.heap.size w w' := by
  have hb0 : Below w.heap.size w (w.alloc (.cells #[.int .u8 0, .int .u8 0, .int .u8 0, .int .u8 0, .int .u8 0, .int .i64 0, .bool false, .bool false, .bool false, .int .i64 0, .int .i64 0, .int .i64 0] 62)) := (Below.refl _ _).alloc (Nat.le_refl _) _
  have H := Lib.hid ((h.keep hb0).kp0 (Kp.refl _ _).drew)
  have HB := Lib.hid hb0
  have hbl := Blk.new w 62 #[.int .u8 0, .int .u8 0, .int .u8 0, .int .u8 0, .int .u8 0, .int .i64 0, .bool false, .bool false, .bool false, .int .i64 0, .int .i64 0, .int .i64 0]
  have HL := Lib.hid hbl
  obtain ⟨left, hleft⟩ : ∃ l, 3072 - (x.tm.gone : Int) = l := ⟨_, rfl⟩
  have HLEFT := Lib.hid hleft
  clear h hb0 hbl hleft
  go_enter Try.func27, Try.ntmps27
  go_wp2_with fail
  generalize World.alloc _ _ = w0 at *
  refine rg_begin (S := fun w' => True) 50 #[false, false, false, false, false, false, false, false, false, false, false, false, false, false, false, false, false, false, false, false, false, false, false, false, false, false, false, false, false, false, false, false, false, false, false, false, false, false, false, false, false, false, false, false, false, false, false, false, false, false] (by kernel_rfl) (by kernel_rfl) (by kernel_rfl) ?_ (fun hHeld => ?_)
  · exact trivial
  refine rg_take (i := 0) (d := some 6) (l := #[true, false, false, false, false, false, false, false, false, false, false, false, false, false, false, false, false, false, false, false, false, false, false, false, false, false, false, false, false, false, false, false, false, false, false, false, false, false, false, false, false, false, false, false, false, false, false, false, false, false]) (fuel := 49) (v := ?_) rfl (by kernel_rfl) (by kernel_rfl) (by kernel_rfl) (by kernel_rfl) (by kernel_rfl) (fun _ _ _ h => h) (by kernel_rfl) ?_ (by assumption) ?_
  rotate_left 1
  · (intro wS hSw; (try dsimp only at hSw); go_simp; try with_reducible rfl)
  try simp only [Act.put, List.setIfInBounds_toArray, List.set_cons_zero, List.set_cons_succ]
  refine rg_take (i := 1) (d := some 7) (l := #[true, true, false, false, false, false, false, false, false, false, false, false, false, false, false, false, false, false, false, false, false, false, false, false, false, false, false, false, false, false, false, false, false, false, false, false, false, false, false, false, false, false, false, false, false, false, false, false, false, false]) (fuel := 48) (v := ?_) rfl (by kernel_rfl) (by kernel_rfl) (by kernel_rfl) (by kernel_rfl) (by kernel_rfl) (fun _ _ _ h => h) (by kernel_rfl) ?_ (by assumption) ?_
  rotate_left 1
  · (intro wS hSw; (try dsimp only at hSw); go_simp; try with_reducible rfl)
  try simp only [Act.put, List.setIfInBounds_toArray, List.set_cons_zero, List.set_cons_succ]
  refine rg_take (i := 2) (d := some 8) (l := #[true, true, true, false, false, false, false, false, false, false, false, false, false, false, false, false, false, false, false, false, false, false, false, false, false, false, false, false, false, false, false, false, false, false, false, false, false, false, false, false, false, false, false, false, false, false, false, false, false, false]) (fuel := 47) (v := ?_) rfl (by kernel_rfl) (by kernel_rfl) (by kernel_rfl) (by kernel_rfl) (by kernel_rfl) (fun _ _ _ h => h) (by kernel_rfl) ?_ (by assumption) ?_
  rotate_left 1
  · (intro wS hSw; (try dsimp only at hSw); go_simp; try with_reducible rfl)
  try simp only [Act.put, List.setIfInBounds_toArray, List.set_cons_zero, List.set_cons_succ]
  refine rg_take (i := 4) (d := some 10) (l := #[true, true, true, false, true, false, false, false, false, false, false, false, false, false, false, false, false, false, false, false, false, false, false, false, false, false, false, false, false, false, false, false, false, false, false, false, false, false, false, false, false, false, false, false, false, false, false, false, false, false]) (fuel := 46) (v := ?_) rfl (by kernel_rfl) (by kernel_rfl) (by kernel_rfl) (by kernel_rfl) (by kernel_rfl) (fun _ _ _ h => h) (by kernel_rfl) ?_ (by assumption) ?_
  rotate_left 1
  · (intro wS hSw; (try dsimp only at hSw); go_simp; try with_reducible rfl)
  try simp only [Act.put, List.setIfInBounds_toArray, List.set_cons_zero, List.set_cons_succ]
  refine rg_take (i := 5) (d := some 11) (l := #[true, true, true, false, true, true, false, false, false, false, false, false, false, false, false, false, false, false, false, false, false, false, false, false, false, false, false, false, false, false, false, false, false, false, false, false, false, false, false, false, false, false, false, false, false, false, false, false, false, false]) (fuel := 45) (v := ?_) rfl (by kernel_rfl) (by kernel_rfl) (by kernel_rfl) (by kernel_rfl) (by kernel_rfl) (fun _ _ _ h => h) (by kernel_rfl) ?_ (by assumption) ?_
  rotate_left 1
  · (intro wS hSw; (try dsimp only at hSw); go_simp; try with_reducible rfl)
  try simp only [Act.put, List.setIfInBounds_toArray, List.set_cons_zero, List.set_cons_succ]
  refine rg_take (i := 6) (d := some 12) (l := #[true, true, true, false, true, true, true, false, false, false, false, false, false, false, false, false, false, false, false, false, false, false, false, false, false, false, false, false, false, false, false, false, false, false, false, false, false, false, false, false, false, false, false, false, false, false, false, false, false, false]) (fuel := 44) (v := ?_) rfl (by kernel_rfl) (by kernel_rfl) (by kernel_rfl) (by kernel_rfl) (by kernel_rfl) (fun _ _ _ h => h) (by kernel_rfl) ?_ (by assumption) ?_
  rotate_left 1
  · (intro wS hSw; (try dsimp only at hSw); go_simp; try with_reducible rfl)
  try simp only [Act.put, List.setIfInBounds_toArray, List.set_cons_zero, List.set_cons_succ]
  refine rg_take (i := 8) (d := some 14) (l := #[true, true, true, false, true, true, true, false, true, false, false, false, false, false, false, false, false, false, false, false, false, false, false, false, false, false, false, false, false, false, false, false, false, false, false, false, false, false, false, false, false, false, false, false, false, false, false, false, false, false]) (fuel := 43) (v := ?_) rfl (by kernel_rfl) (by kernel_rfl) (by kernel_rfl) (by kernel_rfl) (by kernel_rfl) (fun _ _ _ h => h) (by kernel_rfl) ?_ (by assumption) ?_
  rotate_left 1
  · (intro wS hSw; (try dsimp only at hSw); go_simp; try with_reducible rfl)
  try simp only [Act.put, List.setIfInBounds_toArray, List.set_cons_zero, List.set_cons_succ]
  refine rg_take (i := 9) (d := some 15) (l := #[true, true, true, false, true, true, true, false, true, true, false, false, false, false, false, false, false, false, false, false, false, false, false, false, false, false, false, false, false, false, false, false, false, false, false, false, false, false, false, false, false, false, false, false, false, false, false, false, false, false]) (fuel := 42) (v := ?_) rfl (by kernel_rfl) (by kernel_rfl) (by kernel_rfl) (by kernel_rfl) (by kernel_rfl) (fun _ _ _ h => h) (by kernel_rfl) ?_ (by assumption) ?_
  rotate_left 1
  · (intro wS hSw; (try dsimp only at hSw); go_simp; try with_reducible rfl)
  try simp only [Act.put, List.setIfInBounds_toArray, List.set_cons_zero, List.set_cons_succ]
  refine rg_take (i := 10) (d := some 16) (l := #[true, true, true, false, true, true, true, false, true, true, true, false, false, false, false, false, false, false, false, false, false, false, false, false, false, false, false, false, false, false, false, false, false, false, false, false, false, false, false, false, false, false, false, false, false, false, false, false, false, false]) (fuel := 41) (v := ?_) rfl (by kernel_rfl) (by kernel_rfl) (by kernel_rfl) (by kernel_rfl) (by kernel_rfl) (fun _ _ _ h => h) (by kernel_rfl) ?_ (by assumption) ?_
  rotate_left 1
  · (intro wS hSw; (try dsimp only at hSw); go_simp; try with_reducible rfl)
  try simp only [Act.put, List.setIfInBounds_toArray, List.set_cons_zero, List.set_cons_succ]
  refine rg_take (i := 12) (d := some 18) (l := #[true, true, true, false, true, true, true, false, true, true, true, false, true, false, false, false, false, false, false, false, false, false, false, false, false, false, false, false, false, false, false, false, false, false, false, false, false, false, false, false, false, false, false, false, false, false, false, false, false, false]) (fuel := 40) (v := ?_) rfl (by kernel_rfl) (by kernel_rfl) (by kernel_rfl) (by kernel_rfl) (by kernel_rfl) (fun _ _ _ h => h) (by kernel_rfl) ?_ (by assumption) ?_
  rotate_left 1
  · (intro wS hSw; (try dsimp only at hSw); go_simp; try with_reducible rfl)
  try simp only [Act.put, List.setIfInBounds_toArray, List.set_cons_zero, List.set_cons_succ]
  refine rg_take (i := 13) (d := some 19) (l := #[true, true, true, false, true, true, true, false, true, true, true, false, true, true, false, false, false, false, false, false, false, false, false, false, false, false, false, false, false, false, false, false, false, false, false, false, false, false, false, false, false, false, false, false, false, false, false, false, false, false]) (fuel := 39) (v := ?_) rfl (by kernel_rfl) (by kernel_rfl) (by kernel_rfl) (by kernel_rfl) (by kernel_rfl) (fun _ _ _ h => h) (by kernel_rfl) ?_ (by assumption) ?_
  rotate_left 1
  · (intro wS hSw; (try dsimp only at hSw); go_simp; try with_reducible rfl)
  try simp only [Act.put, List.setIfInBounds_toArray, List.set_cons_zero, List.set_cons_succ]
  refine rg_take (i := 14) (d := some 20) (l := #[true, true, true, false, true, true, true, false, true, true, true, false, true, true, true, false, false, false, false, false, false, false, false, false, false, false, false, false, false, false, false, false, false, false, false, false, false, false, false, false, false, false, false, false, false, false, false, false, false, false]) (fuel := 38) (v := ?_) rfl (by kernel_rfl) (by kernel_rfl) (by kernel_rfl) (by kernel_rfl) (by kernel_rfl) (fun _ _ _ h => h) (by kernel_rfl) ?_ (by assumption) ?_
  rotate_left 1
  · (intro wS hSw; (try dsimp only at hSw); go_simp; try with_reducible rfl)
  try simp only [Act.put, List.setIfInBounds_toArray, List.set_cons_zero, List.set_cons_succ]
  refine rg_take (i := 16) (d := some 22) (l := #[true, true, true, false, true, true, true, false, true, true, true, false, true, true, true, false, true, false, false, false, false, false, false, false, false, false, false, false, false, false, false, false, false, false, false, false, false, false, false, false, false, false, false, false, false, false, false, false, false, false]) (fuel := 37) (v := ?_) rfl (by kernel_rfl) (by kernel_rfl) (by kernel_rfl) (by kernel_rfl) (by kernel_rfl) (fun _ _ _ h => h) (by kernel_rfl) ?_ (by assumption) ?_
  rotate_left 1
  · (intro wS hSw; (try dsimp only at hSw); go_simp; try with_reducible rfl)
  try simp only [Act.put, List.setIfInBounds_toArray, List.set_cons_zero, List.set_cons_succ]
  refine rg_take (i := 17) (d := some 23) (l := #[true, true, true, false, true, true, true, false, true, true, true, false, true, true, true, false, true, true, false, false, false, false, false, false, false, false, false, false, false, false, false, false, false, false, false, false, false, false, false, false, false, false, false, false, false, false, false, false, false, false]) (fuel := 36) (v := ?_) rfl (by kernel_rfl) (by kernel_rfl) (by kernel_rfl) (by kernel_rfl) (by kernel_rfl) (fun _ _ _ h => h) (by kernel_rfl) ?_ (by assumption) ?_
  rotate_left 1
  · (intro wS hSw; (try dsimp only at hSw); go_simp; try with_reducible rfl)
  try simp only [Act.put, List.setIfInBounds_toArray, List.set_cons_zero, List.set_cons_succ]
  refine rg_take (i := 18) (d := some 24) (l := #[true, true, true, false, true, true, true, false, true, true, true, false, true, true, true, false, true, true, true, false, false, false, false, false, false, false, false, false, false, false, false, false, false, false, false, false, false, false, false, false, false, false, false, false, false, false, false, false, false, false]) (fuel := 35) (v := ?_) rfl (by kernel_rfl) (by kernel_rfl) (by kernel_rfl) (by kernel_rfl) (by kernel_rfl) (fun _ _ _ h => h) (by kernel_rfl) ?_ (by assumption) ?_
  rotate_left 1
  · (intro wS hSw; (try dsimp only at hSw); go_simp; try with_reducible rfl)
  try simp only [Act.put, List.setIfInBounds_toArray, List.set_cons_zero, List.set_cons_succ]
  refine rg_take (i := 20) (d := some 26) (l := #[true, true, true, false, true, true, true, false, true, true, true, false, true, true, true, false, true, true, true, false, true, false, false, false, false, false, false, false, false, false, false, false, false, false, false, false, false, false, false, false, false, false, false, false, false, false, false, false, false, false]) (fuel := 34) (v := ?_) rfl (by kernel_rfl) (by kernel_rfl) (by kernel_rfl) (by kernel_rfl) (by kernel_rfl) (fun _ _ _ h => h) (by kernel_rfl) ?_ (by assumption) ?_
  rotate_left 1
  · (intro wS hSw; (try dsimp only at hSw); go_simp; try with_reducible rfl)
  try simp only [Act.put, List.setIfInBounds_toArray, List.set_cons_zero, List.set_cons_succ]
  refine rg_take (i := 21) (d := some 27) (l := #[true, true, true, false, true, true, true, false, true, true, true, false, true, true, true, false, true, true, true, false, true, true, false, false, false, false, false, false, false, false, false, false, false, false, false, false, false, false, false, false, false, false, false, false, false, false, false, false, false, false]) (fuel := 33) (v := ?_) rfl (by kernel_rfl) (by kernel_rfl) (by kernel_rfl) (by kernel_rfl) (by kernel_rfl) (fun _ _ _ h => h) (by kernel_rfl) ?_ (by assumption) ?_
  rotate_left 1
  · (intro wS hSw; (try dsimp only at hSw); go_simp; try with_reducible rfl)
  try simp only [Act.put, List.setIfInBounds_toArray, List.set_cons_zero, List.set_cons_succ]
  refine rg_take (i := 22) (d := some 28) (l := #[true, true, true, false, true, true, true, false, true, true, true, false, true, true, true, false, true, true, true, false, true, true, true, false, false, false, false, false, false, false, false, false, false, false, false, false, false, false, false, false, false, false, false, false, false, false, false, false, false, false]) (fuel := 32) (v := ?_) rfl (by kernel_rfl) (by kernel_rfl) (by kernel_rfl) (by kernel_rfl) (by kernel_rfl) (fun _ _ _ h => h) (by kernel_rfl) ?_ (by assumption) ?_
  rotate_left 1
  · (intro wS hSw; (try dsimp only at hSw); go_simp; try with_reducible rfl)
  try simp only [Act.put, List.setIfInBounds_toArray, List.set_cons_zero, List.set_cons_succ]
  refine rg_take (i := 24) (d := some 30) (l := #[true, true, true, false, true, true, true, false, true, true, true, false, true, true, true, false, true, true, true, false, true, true, true, false, true, false, false, false, false, false, false, false, false, false, false, false, false, false, false, false, false, false, false, false, false, false, false, false, false, false]) (fuel := 31) (v := ?_) rfl (by kernel_rfl) (by kernel_rfl) (by kernel_rfl) (by kernel_rfl) (by kernel_rfl) (fun _ _ _ h => h) (by kernel_rfl) ?_ (by assumption) ?_
  rotate_left 1
  · (intro wS hSw; (try dsimp only at hSw); go_simp; try with_reducible rfl)
  try simp only [Act.put, List.setIfInBounds_toArray, List.set_cons_zero, List.set_cons_succ]
  refine rg_take (i := 25) (d := some 31) (l := #[true, true, true, false, true, true, true, false, true, true, true, false, true, true, true, false, true, true, true, false, true, true, true, false, true, true, false, false, false, false, false, false, false, false, false, false, false, false, false, false, false, false, false, false, false, false, false, false, false, false]) (fuel := 30) (v := ?_) rfl (by kernel_rfl) (by kernel_rfl) (by kernel_rfl) (by kernel_rfl) (by kernel_rfl) (fun _ _ _ h => h) (by kernel_rfl) ?_ (by assumption) ?_
  rotate_left 1
  · (intro wS hSw; (try dsimp only at hSw); go_simp; try with_reducible rfl)
  try simp only [Act.put, List.setIfInBounds_toArray, List.set_cons_zero, List.set_cons_succ]
  refine rg_take (i := 26) (d := some 32) (l := #[true, true, true, false, true, true, true, false, true, true, true, false, true, true, true, false, true, true, true, false, true, true, true, false, true, true, true, false, false, false, false, false, false, false, false, false, false, false, false, false, false, false, false, false, false, false, false, false, false, false]) (fuel := 29) (v := ?_) rfl (by kernel_rfl) (by kernel_rfl) (by kernel_rfl) (by kernel_rfl) (by kernel_rfl) (fun _ _ _ h => h) (by kernel_rfl) ?_ (by assumption) ?_
  rotate_left 1
  · (intro wS hSw; (try dsimp only at hSw); go_simp; try with_reducible rfl)
  try simp only [Act.put, List.setIfInBounds_toArray, List.set_cons_zero, List.set_cons_succ]
  refine rg_take (i := 28) (d := some 34) (l := #[true, true, true, false, true, true, true, false, true, true, true, false, true, true, true, false, true, true, true, false, true, true, true, false, true, true, true, false, true, false, false, false, false, false, false, false, false, false, false, false, false, false, false, false, false, false, false, false, false, false]) (fuel := 28) (v := ?_) rfl (by kernel_rfl) (by kernel_rfl) (by kernel_rfl) (by kernel_rfl) (by kernel_rfl) (fun _ _ _ h => h) (by kernel_rfl) ?_ (by assumption) ?_
  rotate_left 1
  · (intro wS hSw; (try dsimp only at hSw); go_simp; try with_reducible rfl)
  try simp only [Act.put, List.setIfInBounds_toArray, List.set_cons_zero, List.set_cons_succ]
  refine rg_take (i := 29) (d := some 35) (l := #[true, true, true, false, true, true, true, false, true, true, true, false, true, true, true, false, true, true, true, false, true, true, true, false, true, true, true, false, true, true, false, false, false, false, false, false, false, false, false, false, false, false, false, false, false, false, false, false, false, false]) (fuel := 27) (v := ?_) rfl (by kernel_rfl) (by kernel_rfl) (by kernel_rfl) (by kernel_rfl) (by kernel_rfl) (fun _ _ _ h => h) (by kernel_rfl) ?_ (by assumption) ?_
  rotate_left 1
  · (intro wS hSw; (try dsimp only at hSw); go_simp; try with_reducible rfl)
  try simp only [Act.put, List.setIfInBounds_toArray, List.set_cons_zero, List.set_cons_succ]
  refine rg_take (i := 30) (d := some 36) (l := #[true, true, true, false, true, true, true, false, true, true, true, false, true, true, true, false, true, true, true, false, true, true, true, false, true, true, true, false, true, true, true, false, false, false, false, false, false, false, false, false, false, false, false, false, false, false, false, false, false, false]) (fuel := 26) (v := ?_) rfl (by kernel_rfl) (by kernel_rfl) (by kernel_rfl) (by kernel_rfl) (by kernel_rfl) (fun _ _ _ h => h) (by kernel_rfl) ?_ (by assumption) ?_
  rotate_left 1
  · (intro wS hSw; (try dsimp only at hSw); go_simp; try with_reducible rfl)
  try simp only [Act.put, List.setIfInBounds_toArray, List.set_cons_zero, List.set_cons_succ]
  refine rg_take (i := 32) (d := some 38) (l := #[true, true, true, false, true, true, true, false, true, true, true, false, true, true, true, false, true, true, true, false, true, true, true, false, true, true, true, false, true, true, true, false, true, false, false, false, false, false, false, false, false, false, false, false, false, false, false, false, false, false]) (fuel := 25) (v := ?_) rfl (by kernel_rfl) (by kernel_rfl) (by kernel_rfl) (by kernel_rfl) (by kernel_rfl) (fun _ _ _ h => h) (by kernel_rfl) ?_ (by assumption) ?_
  rotate_left 1
  · (intro wS hSw; (try dsimp only at hSw); go_simp; try with_reducible rfl)
  try simp only [Act.put, List.setIfInBounds_toArray, List.set_cons_zero, List.set_cons_succ]
  refine rg_take (i := 33) (d := some 39) (l := #[true, true, true, false, true, true, true, false, true, true, true, false, true, true, true, false, true, true, true, false, true, true, true, false, true, true, true, false, true, true, true, false, true, true, false, false, false, false, false, false, false, false, false, false, false, false, false, false, false, false]) (fuel := 24) (v := ?_) rfl (by kernel_rfl) (by kernel_rfl) (by kernel_rfl) (by kernel_rfl) (by kernel_rfl) (fun _ _ _ h => h) (by kernel_rfl) ?_ (by assumption) ?_
  rotate_left 1
  · (intro wS hSw; (try dsimp only at hSw); go_simp; try with_reducible rfl)
  try simp only [Act.put, List.setIfInBounds_toArray, List.set_cons_zero, List.set_cons_succ]
  refine rg_take (i := 34) (d := some 40) (l := #[true, true, true, false, true, true, true, false, true, true, true, false, true, true, true, false, true, true, true, false, true, true, true, false, true, true, true, false, true, true, true, false, true, true, true, false, false, false, false, false, false, false, false, false, false, false, false, false, false, false]) (fuel := 23) (v := ?_) rfl (by kernel_rfl) (by kernel_rfl) (by kernel_rfl) (by kernel_rfl) (by kernel_rfl) (fun _ _ _ h => h) (by kernel_rfl) ?_ (by assumption) ?_
  rotate_left 1
  · (intro wS hSw; (try dsimp only at hSw); go_simp; try with_reducible rfl)
  try simp only [Act.put, List.setIfInBounds_toArray, List.set_cons_zero, List.set_cons_succ]
  refine rg_take (i := 36) (d := some 42) (l := #[true, true, true, false, true, true, true, false, true, true, true, false, true, true, true, false, true, true, true, false, true, true, true, false, true, true, true, false, true, true, true, false, true, true, true, false, true, false, false, false, false, false, false, false, false, false, false, false, false, false]) (fuel := 22) (v := ?_) rfl (by kernel_rfl) (by kernel_rfl) (by kernel_rfl) (by kernel_rfl) (by kernel_rfl) (fun _ _ _ h => h) (by kernel_rfl) ?_ (by assumption) ?_
  rotate_left 1
  · (intro wS hSw; (try dsimp only at hSw); go_simp; try with_reducible rfl)
  try simp only [Act.put, List.setIfInBounds_toArray, List.set_cons_zero, List.set_cons_succ]
  refine rg_take (i := 37) (d := some 43) (l := #[true, true, true, false, true, true, true, false, true, true, true, false, true, true, true, false, true, true, true, false, true, true, true, false, true, true, true, false, true, true, true, false, true, true, true, false, true, true, false, false, false, false, false, false, false, false, false, false, false, false]) (fuel := 21) (v := ?_) rfl (by kernel_rfl) (by kernel_rfl) (by kernel_rfl) (by kernel_rfl) (by kernel_rfl) (fun _ _ _ h => h) (by kernel_rfl) ?_ (by assumption) ?_
  rotate_left 1
  · (intro wS hSw; (try dsimp only at hSw); go_simp; try with_reducible rfl)
  try simp only [Act.put, List.setIfInBounds_toArray, List.set_cons_zero, List.set_cons_succ]
  refine rg_take (i := 38) (d := some 44) (l := #[true, true, true, false, true, true, true, false, true, true, true, false, true, true, true, false, true, true, true, false, true, true, true, false, true, true, true, false, true, true, true, false, true, true, true, false, true, true, true, false, false, false, false, false, false, false, false, false, false, false]) (fuel := 20) (v := ?_) rfl (by kernel_rfl) (by kernel_rfl) (by kernel_rfl) (by kernel_rfl) (by kernel_rfl) (fun _ _ _ h => h) (by kernel_rfl) ?_ (by assumption) ?_
  rotate_left 1
  · (intro wS hSw; (try dsimp only at hSw); go_simp; try with_reducible rfl)
  try simp only [Act.put, List.setIfInBounds_toArray, List.set_cons_zero, List.set_cons_succ]
  refine rg_take (i := 40) (d := some 46) (l := #[true, true, true, false, true, true, true, false, true, true, true, false, true, true, true, false, true, true, true, false, true, true, true, false, true, true, true, false, true, true, true, false, true, true, true, false, true, true, true, false, true, false, false, false, false, false, false, false, false, false]) (fuel := 19) (v := ?_) rfl (by kernel_rfl) (by kernel_rfl) (by kernel_rfl) (by kernel_rfl) (by kernel_rfl) (fun _ _ _ h => h) (by kernel_rfl) ?_ (by assumption) ?_
  rotate_left 1
  · (intro wS hSw; (try dsimp only at hSw); go_simp; try with_reducible rfl)
  try simp only [Act.put, List.setIfInBounds_toArray, List.set_cons_zero, List.set_cons_succ]
  refine rg_take (i := 41) (d := some 47) (l := #[true, true, true, false, true, true, true, false, true, true, true, false, true, true, true, false, true, true, true, false, true, true, true, false, true, true, true, false, true, true, true, false, true, true, true, false, true, true, true, false, true, true, false, false, false, false, false, false, false, false]) (fuel := 18) (v := ?_) rfl (by kernel_rfl) (by kernel_rfl) (by kernel_rfl) (by kernel_rfl) (by kernel_rfl) (fun _ _ _ h => h) (by kernel_rfl) ?_ (by assumption) ?_
  rotate_left 1
  · (intro wS hSw; (try dsimp only at hSw); go_simp; try with_reducible rfl)
  try simp only [Act.put, List.setIfInBounds_toArray, List.set_cons_zero, List.set_cons_succ]
  refine rg_take (i := 42) (d := some 48) (l := #[true, true, true, false, true, true, true, false, true, true, true, false, true, true, true, false, true, true, true, false, true, true, true, false, true, true, true, false, true, true, true, false, true, true, true, false, true, true, true, false, true, true, true, false, false, false, false, false, false, false]) (fuel := 17) (v := ?_) rfl (by kernel_rfl) (by kernel_rfl) (by kernel_rfl) (by kernel_rfl) (by kernel_rfl) (fun _ _ _ h => h) (by kernel_rfl) ?_ (by assumption) ?_
  rotate_left 1
  · (intro wS hSw; (try dsimp only at hSw); go_simp; try with_reducible rfl)
  try simp only [Act.put, List.setIfInBounds_toArray, List.set_cons_zero, List.set_cons_succ]
  refine rg_take (i := 44) (d := some 50) (l := #[true, true, true, false, true, true, true, false, true, true, true, false, true, true, true, false, true, true, true, false, true, true, true, false, true, true, true, false, true, true, true, false, true, true, true, false, true, true, true, false, true, true, true, false, true, false, false, false, false, false]) (fuel := 16) (v := ?_) rfl (by kernel_rfl) (by kernel_rfl) (by kernel_rfl) (by kernel_rfl) (by kernel_rfl) (fun _ _ _ h => h) (by kernel_rfl) ?_ (by assumption) ?_
  rotate_left 1
  · (intro wS hSw; (try dsimp only at hSw); go_simp; try with_reducible rfl)
  try simp only [Act.put, List.setIfInBounds_toArray, List.set_cons_zero, List.set_cons_succ]
  refine rg_take (i := 45) (d := some 51) (l := #[true, true, true, false, true, true, true, false, true, true, true, false, true, true, true, false, true, true, true, false, true, true, true, false, true, true, true, false, true, true, true, false, true, true, true, false, true, true, true, false, true, true, true, false, true, true, false, false, false, false]) (fuel := 15) (v := ?_) rfl (by kernel_rfl) (by kernel_rfl) (by kernel_rfl) (by kernel_rfl) (by kernel_rfl) (fun _ _ _ h => h) (by kernel_rfl) ?_ (by assumption) ?_
  rotate_left 1
  · (intro wS hSw; (try dsimp only at hSw); go_simp; try with_reducible rfl)
  try simp only [Act.put, List.setIfInBounds_toArray, List.set_cons_zero, List.set_cons_succ]
  refine rg_take (i := 46) (d := some 52) (l := #[true, true, true, false, true, true, true, false, true, true, true, false, true, true, true, false, true, true, true, false, true, true, true, false, true, true, true, false, true, true, true, false, true, true, true, false, true, true, true, false, true, true, true, false, true, true, true, false, false, false]) (fuel := 14) (v := ?_) rfl (by kernel_rfl) (by kernel_rfl) (by kernel_rfl) (by kernel_rfl) (by kernel_rfl) (fun _ _ _ h => h) (by kernel_rfl) ?_ (by assumption) ?_
  rotate_left 1
  · (intro wS hSw; (try dsimp only at hSw); go_simp; try with_reducible rfl)
  try simp only [Act.put, List.setIfInBounds_toArray, List.set_cons_zero, List.set_cons_succ]
  refine rg_next (i := 3) (l := #[true, true, true, true, true, true, true, false, true, true, true, false, true, true, true, false, true, true, true, false, true, true, true, false, true, true, true, false, true, true, true, false, true, true, true, false, true, true, true, false, true, true, true, false, true, true, true, false, false, false]) (fuel := 13) (by kernel_rfl) rfl (by kernel_rfl) (by kernel_rfl) (fun K hK => ?_)
  go_simp
  (go_at_call 58)
  refine (pvalue_any H.out.lat.1).mono ?_
  rintro e w' ⟨rfl, rfl⟩
  first | (refine hK.out _ _ ?_ (fun hHeld => ?_)) | (go_wp2_with fail; refine hK.out _ _ ?_ (fun hHeld => ?_))
  · (try dsimp only); try exact trivial
  clear hK K
  try simp only [Act.put, List.setIfInBounds_toArray, List.set_cons_zero, List.set_cons_succ]
  refine rg_next (i := 7) (l := #[true, true, true, true, true, true, true, true, true, true, true, false, true, true, true, false, true, true, true, false, true, true, true, false, true, true, true, false, true, true, true, false, true, true, true, false, true, true, true, false, true, true, true, false, true, true, true, false, false, false]) (fuel := 12) (by kernel_rfl) rfl (by kernel_rfl) (by kernel_rfl) (fun K hK => ?_)
  go_simp
  (go_at_call 59)
  obtain ⟨cs, q1, q2⟩ := H.out.tmr
  refine (treload_any q1).mono ?_
  rintro e w' ⟨rfl, rfl⟩
  clear q1 q2 cs
  first | (refine hK.out _ _ ?_ (fun hHeld => ?_)) | (go_wp2_with fail; refine hK.out _ _ ?_ (fun hHeld => ?_))
  · (try dsimp only); try exact trivial
  clear hK K
  try simp only [Act.put, List.setIfInBounds_toArray, List.set_cons_zero, List.set_cons_succ]
  refine rg_next (i := 11) (l := #[true, true, true, true, true, true, true, true, true, true, true, true, true, true, true, false, true, true, true, false, true, true, true, false, true, true, true, false, true, true, true, false, true, true, true, false, true, true, true, false, true, true, true, false, true, true, true, false, false, false]) (fuel := 11) (by kernel_rfl) rfl (by kernel_rfl) (by kernel_rfl) (fun K hK => ?_)
  go_simp
  (go_at_call 60)
  obtain ⟨cs, q1, q2⟩ := H.out.tmr
  refine (tcounter_any q1).mono ?_
  rintro e w' ⟨rfl, rfl⟩
  clear q1 q2 cs
  first | (refine hK.out _ _ ?_ (fun hHeld => ?_)) | (go_wp2_with fail; refine hK.out _ _ ?_ (fun hHeld => ?_))
  · (try dsimp only); try exact trivial
  clear hK K
  try simp only [Act.put, List.setIfInBounds_toArray, List.set_cons_zero, List.set_cons_succ]
  refine rg_next (i := 15) (l := #[true, true, true, true, true, true, true, true, true, true, true, true, true, true, true, true, true, true, true, false, true, true, true, false, true, true, true, false, true, true, true, false, true, true, true, false, true, true, true, false, true, true, true, false, true, true, true, false, false, false]) (fuel := 10) (by kernel_rfl) rfl (by kernel_rfl) (by kernel_rfl) (fun K hK => ?_)
  go_simp
  (go_at_call 12)
  obtain ⟨cs, q1, q2⟩ := H.out.irq
  refine (qdisable_any q1).mono ?_
  rintro e w' ⟨rfl, rfl⟩
  clear q1 q2 cs
  first | (refine hK.out _ _ ?_ (fun hHeld => ?_)) | (go_wp2_with fail; refine hK.out _ _ ?_ (fun hHeld => ?_))
  · (try dsimp only); try exact trivial
  clear hK K
  try simp only [Act.put, List.setIfInBounds_toArray, List.set_cons_zero, List.set_cons_succ]
  refine rg_next (i := 19) (l := #[true, true, true, true, true, true, true, true, true, true, true, true, true, true, true, true, true, true, true, true, true, true, true, false, true, true, true, false, true, true, true, false, true, true, true, false, true, true, true, false, true, true, true, false, true, true, true, false, false, false]) (fuel := 9) (by kernel_rfl) rfl (by kernel_rfl) (by kernel_rfl) (fun K hK => ?_)
  go_simp
  (go_at_call 61)
  obtain ⟨cs, q1, q2⟩ := H.out.prt
  refine (pselect_any q1).mono ?_
  rintro e w' ⟨rfl, rfl⟩
  clear q1 q2 cs
  first | (refine hK.out _ _ ?_ (fun hHeld => ?_)) | (go_wp2_with fail; refine hK.out _ _ ?_ (fun hHeld => ?_))
  · (try dsimp only); try exact trivial
  clear hK K
  try simp only [Act.put, List.setIfInBounds_toArray, List.set_cons_zero, List.set_cons_succ]
  refine rg_next (i := 23) (l := #[true, true, true, true, true, true, true, true, true, true, true, true, true, true, true, true, true, true, true, true, true, true, true, true, true, true, true, false, true, true, true, false, true, true, true, false, true, true, true, false, true, true, true, false, true, true, true, false, false, false]) (fuel := 8) (by kernel_rfl) rfl (by kernel_rfl) (by kernel_rfl) (fun K hK => ?_)
  go_simp
  (go_at_call 55)
  obtain ⟨cs, q1, q2⟩ := H.out.tmr
  refine (tleft_any q1).mono ?_
  rw [HLEFT.out]
  rintro e w' ⟨rfl, rfl⟩
  clear q1 q2 cs
  first | (refine hK.out _ _ ?_ (fun hHeld => ?_)) | (go_wp2_with fail; refine hK.out _ _ ?_ (fun hHeld => ?_))
  · (try dsimp only); try exact trivial
  clear hK K
  try simp only [Act.put, List.setIfInBounds_toArray, List.set_cons_zero, List.set_cons_succ]
  refine rg_next (i := 27) (l := #[true, true, true, true, true, true, true, true, true, true, true, true, true, true, true, true, true, true, true, true, true, true, true, true, true, true, true, true, true, true, true, false, true, true, true, false, true, true, true, false, true, true, true, false, true, true, true, false, false, false]) (fuel := 7) (by kernel_rfl) rfl (by kernel_rfl) (by kernel_rfl) (fun K hK => ?_)
  go_simp
  (go_at_call 54)
  obtain ⟨cs, q1, q2⟩ := H.out.tmr
  refine (ton_any q1).mono ?_
  rintro e w' ⟨rfl, rfl⟩
  clear q1 q2 cs
  first | (refine hK.out _ _ ?_ (fun hHeld => ?_)) | (go_wp2_with fail; refine hK.out _ _ ?_ (fun hHeld => ?_))
  · (try dsimp only); try exact trivial
  clear hK K
  try simp only [Act.put, List.setIfInBounds_toArray, List.set_cons_zero, List.set_cons_succ]
  refine rg_next (i := 31) (l := #[true, true, true, true, true, true, true, true, true, true, true, true, true, true, true, true, true, true, true, true, true, true, true, true, true, true, true, true, true, true, true, true, true, true, true, false, true, true, true, false, true, true, true, false, true, true, true, false, false, false]) (fuel := 6) (by kernel_rfl) rfl (by kernel_rfl) (by kernel_rfl) (fun K hK => ?_)
  go_simp
  (go_at_call 13)
  obtain ⟨cs, q1, q2⟩ := H.out.irq
  refine (qdue_any q1).mono ?_
  rintro e w' ⟨rfl, rfl⟩
  clear q1 q2 cs
  first | (refine hK.out _ _ ?_ (fun hHeld => ?_)) | (go_wp2_with fail; refine hK.out _ _ ?_ (fun hHeld => ?_))
  · (try dsimp only); try exact trivial
  clear hK K
  try simp only [Act.put, List.setIfInBounds_toArray, List.set_cons_zero, List.set_cons_succ]
  refine rg_next (i := 35) (l := #[true, true, true, true, true, true, true, true, true, true, true, true, true, true, true, true, true, true, true, true, true, true, true, true, true, true, true, true, true, true, true, true, true, true, true, true, true, true, true, false, true, true, true, false, true, true, true, false, false, false]) (fuel := 5) (by kernel_rfl) rfl (by kernel_rfl) (by kernel_rfl) (fun K hK => ?_)
  go_simp
  (go_at_call 62)
  refine (hrose_any H.out.lns.1).mono ?_
  rintro e w' ⟨rfl, rfl⟩
  first | (refine hK.out _ _ ?_ (fun hHeld => ?_)) | (go_wp2_with fail; refine hK.out _ _ ?_ (fun hHeld => ?_))
  · (try dsimp only); try exact trivial
  clear hK K
  try simp only [Act.put, List.setIfInBounds_toArray, List.set_cons_zero, List.set_cons_succ]
  refine rg_next (i := 39) (l := #[true, true, true, true, true, true, true, true, true, true, true, true, true, true, true, true, true, true, true, true, true, true, true, true, true, true, true, true, true, true, true, true, true, true, true, true, true, true, true, true, true, true, true, false, true, true, true, false, false, false]) (fuel := 4) (by kernel_rfl) rfl (by kernel_rfl) (by kernel_rfl) (fun K hK => ?_)
  go_simp
  (go_at_call 63)
  obtain ⟨cs, q1, q2⟩ := H.out.fdv
  refine (fptaken_any q1).mono ?_
  rintro e w' ⟨rfl, rfl⟩
  clear q1 q2 cs
  first | (refine hK.out _ _ ?_ (fun hHeld => ?_)) | (go_wp2_with fail; refine hK.out _ _ ?_ (fun hHeld => ?_))
  · (try dsimp only); try exact trivial
  clear hK K
  try simp only [Act.put, List.setIfInBounds_toArray, List.set_cons_zero, List.set_cons_succ]
  refine rg_next (i := 43) (l := #[true, true, true, true, true, true, true, true, true, true, true, true, true, true, true, true, true, true, true, true, true, true, true, true, true, true, true, true, true, true, true, true, true, true, true, true, true, true, true, true, true, true, true, true, true, true, true, false, false, false]) (fuel := 3) (by kernel_rfl) rfl (by kernel_rfl) (by kernel_rfl) (fun K hK => ?_)
  go_simp
  (go_at_call 63)
  obtain ⟨cs, q1, q2⟩ := H.out.fdc
  refine (fptaken_any q1).mono ?_
  rintro e w' ⟨rfl, rfl⟩
  clear q1 q2 cs
  first | (refine hK.out _ _ ?_ (fun hHeld => ?_)) | (go_wp2_with fail; refine hK.out _ _ ?_ (fun hHeld => ?_))
  · (try dsimp only); try exact trivial
  clear hK K
  try simp only [Act.put, List.setIfInBounds_toArray, List.set_cons_zero, List.set_cons_succ]
  refine rg_next (i := 47) (l := #[true, true, true, true, true, true, true, true, true, true, true, true, true, true, true, true, true, true, true, true, true, true, true, true, true, true, true, true, true, true, true, true, true, true, true, true, true, true, true, true, true, true, true, true, true, true, true, true, false, false]) (fuel := 2) (by kernel_rfl) rfl (by kernel_rfl) (by kernel_rfl) (fun K hK => ?_)
  go_simp
  (go_at_call 64)
  obtain ⟨cs, q1, q2⟩ := H.out.prt
  refine (ptaken_any q1).mono ?_
  rintro e w' ⟨rfl, rfl⟩
  clear q1 q2 cs
  first | (refine hK.out _ _ ?_ (fun hHeld => ?_)) | (go_wp2_with fail; refine hK.out _ _ ?_ (fun hHeld => ?_))
  · (try dsimp only); try exact trivial
  clear hK K
  try simp only [Act.put, List.setIfInBounds_toArray, List.set_cons_zero, List.set_cons_succ]
  refine rg_take (i := 48) (d := some 54) (l := #[true, true, true, true, true, true, true, true, true, true, true, true, true, true, true, true, true, true, true, true, true, true, true, true, true, true, true, true, true, true, true, true, true, true, true, true, true, true, true, true, true, true, true, true, true, true, true, true, true, false]) (fuel := 1) (v := ?_) rfl (by kernel_rfl) (by kernel_rfl) (by kernel_rfl) (by kernel_rfl) (by kernel_rfl) (fun _ _ _ h => h) (by kernel_rfl) ?_ (by assumption) ?_
  rotate_left 1
  · (intro wS hSw; (try dsimp only at hSw); go_simp; try with_reducible rfl)
  try simp only [Act.put, List.setIfInBounds_toArray, List.set_cons_zero, List.set_cons_succ]
  obtain ⟨r, hr⟩ : ∃ r, w.heap.size = r := ⟨_, rfl⟩
  have HW : Hid (r = w.heap.size) := Lib.hid hr.symm
  rw [hr] at HL
  simp only [hr]
  clear hr
  have f0 := HL.out.frozen 0
  have f1 := HL.out.frozen 1
  have f2 := HL.out.frozen 2
  have f3 := HL.out.frozen 3
  have f4 := HL.out.frozen 4
  have f5 := HL.out.frozen 5
  have f6 := HL.out.frozen 6
  have f7 := HL.out.frozen 7
  have f8 := HL.out.frozen 8
  have f9 := HL.out.frozen 9
  have f10 := HL.out.frozen 10
  have f11 := HL.out.frozen 11
  have e0 : w0.cell? ⟨r, 0, none⟩ = some (.int .u8 0) := HL.out.cell 0
  have e1 : w0.cell? ⟨r, 1, none⟩ = some (.int .u8 0) := HL.out.cell 1
  have e2 : w0.cell? ⟨r, 2, none⟩ = some (.int .u8 0) := HL.out.cell 2
  have e3 : w0.cell? ⟨r, 3, none⟩ = some (.int .u8 0) := HL.out.cell 3
  have e4 : w0.cell? ⟨r, 4, none⟩ = some (.int .u8 0) := HL.out.cell 4
  have e5 : w0.cell? ⟨r, 5, none⟩ = some (.int .i64 0) := HL.out.cell 5
  have e6 : w0.cell? ⟨r, 6, none⟩ = some (.bool false) := HL.out.cell 6
  have e7 : w0.cell? ⟨r, 7, none⟩ = some (.bool false) := HL.out.cell 7
  have e8 : w0.cell? ⟨r, 8, none⟩ = some (.bool false) := HL.out.cell 8
  have e9 : w0.cell? ⟨r, 9, none⟩ = some (.int .i64 0) := HL.out.cell 9
  have e10 : w0.cell? ⟨r, 10, none⟩ = some (.int .i64 0) := HL.out.cell 10
  have e11 : w0.cell? ⟨r, 11, none⟩ = some (.int .i64 0) := HL.out.cell 11
  refine rg_next (i := 49) (l := #[true, true, true, true, true, true, true, true, true, true, true, true, true, true, true, true, true, true, true, true, true, true, true, true, true, true, true, true, true, true, true, true, true, true, true, true, true, true, true, true, true, true, true, true, true, true, true, true, true, true]) (fuel := 0) (by kernel_rfl) rfl (by kernel_rfl) (by kernel_rfl) (fun K hK => ?_)
  go_simp
  skip
  first | (refine hK.out _ _ ?_ (fun hHeld => ?_)) | (go_wp2_with fail; refine hK.out _ _ ?_ (fun hHeld => ?_))
  · (try dsimp only); try exact trivial
  clear hK K
  try simp only [Act.put, List.setIfInBounds_toArray, List.set_cons_zero, List.set_cons_succ]
  refine wpAnyH_done (by kernel_rfl) ?_ _
  clear f0 f1 f2 f3 f4 f5 f6 f7 f8 f9 f10 f11 e0 e1 e2 e3 e4 e5 e6 e7 e8 e9 e10 e11 hHeld
  have NB := ((((((((((((HL.out.set_ 0 (.int .u8 x.buf)).set_ 1 (.int .u8 x.tm.r)).set_ 2 (.int .u8 x.tm.c)).set_ 3 (.int .u8 x.q.d)).set_ 4 (.int .u8 x.pt.l)).set_ 5 (.int .i64 left)).set_ 6 (.bool x.tm.on)).set_ 7 (.bool x.q.due)).set_ 8 (.bool x.ro)).set_ 9 (.int .i64 x.tv)).set_ 10 (.int .i64 x.tc)).set_ 11 (.int .i64 x.tp))
  have KB := (((((((((((((Kp.refl [r] w0).setCell (p := ⟨r, 0, none⟩) (.inl (by simp)) (.int .u8 x.buf)).setCell (p := ⟨r, 1, none⟩) (.inl (by simp)) (.int .u8 x.tm.r)).setCell (p := ⟨r, 2, none⟩) (.inl (by simp)) (.int .u8 x.tm.c)).setCell (p := ⟨r, 3, none⟩) (.inl (by simp)) (.int .u8 x.q.d)).setCell (p := ⟨r, 4, none⟩) (.inl (by simp)) (.int .u8 x.pt.l)).setCell (p := ⟨r, 5, none⟩) (.inl (by simp)) (.int .i64 left)).setCell (p := ⟨r, 6, none⟩) (.inl (by simp)) (.bool x.tm.on)).setCell (p := ⟨r, 7, none⟩) (.inl (by simp)) (.bool x.q.due)).setCell (p := ⟨r, 8, none⟩) (.inl (by simp)) (.bool x.ro)).setCell (p := ⟨r, 9, none⟩) (.inl (by simp)) (.int .i64 x.tv)).setCell (p := ⟨r, 10, none⟩) (.inl (by simp)) (.int .i64 x.tc)).setCell (p := ⟨r, 11, none⟩) (.inl (by simp)) (.int .i64 x.tp))
  simp only [List.setIfInBounds_toArray, List.set_cons_zero, List.set_cons_succ] at NB
  generalize World.setCell (World.setCell _ _ _) _ _ = wz at *
  have NZ := Lib.hid NB
  have KZ := Lib.hid KB
  have z0 : wz.cell? ⟨r, 0, none⟩ = some (.int .u8 x.buf) := NB.cell 0
  have z1 : wz.cell? ⟨r, 1, none⟩ = some (.int .u8 x.tm.r) := NB.cell 1
  have z2 : wz.cell? ⟨r, 2, none⟩ = some (.int .u8 x.tm.c) := NB.cell 2
  have z3 : wz.cell? ⟨r, 3, none⟩ = some (.int .u8 x.q.d) := NB.cell 3
  have z4 : wz.cell? ⟨r, 4, none⟩ = some (.int .u8 x.pt.l) := NB.cell 4
  have z5 : wz.cell? ⟨r, 5, none⟩ = some (.int .i64 left) := NB.cell 5
  have z6 : wz.cell? ⟨r, 6, none⟩ = some (.bool x.tm.on) := NB.cell 6
  have z7 : wz.cell? ⟨r, 7, none⟩ = some (.bool x.q.due) := NB.cell 7
  have z8 : wz.cell? ⟨r, 8, none⟩ = some (.bool x.ro) := NB.cell 8
  have z9 : wz.cell? ⟨r, 9, none⟩ = some (.int .i64 x.tv) := NB.cell 9
  have z10 : wz.cell? ⟨r, 10, none⟩ = some (.int .i64 x.tc) := NB.cell 10
  have z11 : wz.cell? ⟨r, 11, none⟩ = some (.int .i64 x.tp) := NB.cell 11
  clear NB KB
  go_wp2_with fail
  have e0 : (.agg (stC x) : Value) = .agg #[.int .u8 x.buf, .int .u8 x.tm.r, .int .u8 x.tm.c, .int .u8 x.q.d, .int .u8 x.pt.l, .int .i64 left, .bool x.tm.on, .bool x.q.due, .bool x.ro, .int .i64 x.tv, .int .i64 x.tc, .int .i64 x.tp] := by unfold stC; rw [HLEFT.out]
  refine bodyPost_ret (v := .agg (stC x)) (by rw [e0]; simp [results, Try.results27, go_sem, z0, z1, z2, z3, z4, z5, z6, z7, z8, z9, z10, z11]) rfl ?_
  have hr : w.heap.size ≤ r := by rw [HW.out]; exact Nat.le_refl _
  exact ⟨rfl, (KZ.out.onto HB.out HB.out.size (by simpa using hr)).drew⟩
end
end Go.Proofs.Ytjknjlkjpccibaa
namespace Go.Proofs.Ytjknjlkjpccibaa
open Go.RowKit
set_option linter.unusedVariables false
def bankI (a : Int) : Int := a % 2097152 / 8192
def offI (a : Int) : Int := a % 8192
set_option maxHeartbeats 400000 in
theorem addr_any (b o : Int) (w : World) (b0 : 0 ≤ b) (b1 : b ≤ 255) (o0 : 0 ≤ o) (o1 : o ≤ 65535) :
    Calls Try.prog 48 #[.int .u8 b, .int .u16 o] w fun e w' => e = .returned (.int .u32 (b * 8192 + o % 8192)) ∧ w = w' := by
  go_enter Try.func48, Try.ntmps48
  go_wp2
  go_ret
  exact ⟨rfl, rfl⟩
set_option maxHeartbeats 400000 in
theorem off_any (a : Int) (w : World) (a0 : 0 ≤ a) (a1 : a ≤ 4294967295) :
    Calls Try.prog 78 #[.int .u32 a] w fun e w' => e = .returned (.int .u16 (offI a)) ∧ w = w' := by
  have h : IntKind.u16.wrap (a % 8192) = a % 8192 := IntWalk.u16_in _ (by omega)
  unfold offI
  go_enter Try.func78, Try.ntmps78
  go_wp2
  go_ret
  exact ⟨rfl, rfl⟩
def partsC : Array Value := #[.int .u32 0, .int .u8 0, .int .u32 1048576, .int .u8 2, .int .u32 2031616, .int .u8 1, .int .u32 2064384, .int .u8 2, .int .u32 2088960, .int .u8 3, .int .u32 2089984, .int .u8 4, .int .u32 2091008, .int .u8 5, .int .u32 2092032, .int .u8 6, .int .u32 2093056, .int .u8 7, .int .u32 2094080, .int .u8 8, .int .u32 2095104, .int .u8 2]
def partsA : List (Nat × Value) := [(0, .agg #[.int .u32 0, .int .u8 0]), (1, .agg #[.int .u32 1048576, .int .u8 2]), (2, .agg #[.int .u32 2031616, .int .u8 1]), (3, .agg #[.int .u32 2064384, .int .u8 2]), (4, .agg #[.int .u32 2088960, .int .u8 3]), (5, .agg #[.int .u32 2089984, .int .u8 4]), (6, .agg #[.int .u32 2091008, .int .u8 5]), (7, .agg #[.int .u32 2092032, .int .u8 6]), (8, .agg #[.int .u32 2093056, .int .u8 7]), (9, .agg #[.int .u32 2094080, .int .u8 8]), (10, .agg #[.int .u32 2095104, .int .u8 2])]
theorem parts_built : Try.prog.built 127 partsA = some partsC := by kernel_rfl
set_option maxHeartbeats 1000000 in
theorem parts_any (w : World) :
    Calls Try.prog 76 #[] w fun e w' => e = .returned (.agg partsC) ∧ Below w.heap.size w w' := by
  have hst := fun W => run_storeCells_new (P := Try.prog) W 127 #[.int .u32 0, .int .u8 0, .int .u32 0, .int .u8 0, .int .u32 0, .int .u8 0, .int .u32 0, .int .u8 0, .int .u32 0, .int .u8 0, .int .u32 0, .int .u8 0, .int .u32 0, .int .u8 0, .int .u32 0, .int .u8 0, .int .u32 0, .int .u8 0, .int .u32 0, .int .u8 0, .int .u32 0, .int .u8 0] partsC (by kernel_rfl) rfl (by kernel_rfl)
  have hld := fun W => run_loadVar_new (P := Try.prog) W 127 partsC 11 126 Try.underlying127 (by kernel_rfl)
  go_enter Try.func76, Try.ntmps76
  go_wp2_with (refine wpList_build rfl 127 _ rfl partsA (by rfl) partsC parts_built ?_)
  refine bodyPost_ret (v := .agg partsC) (results_cell (a := ⟨w.heap.size, 0, none⟩) Try.results76 (by rfl) (hld _)) rfl ?_
  exact ⟨rfl, by go_grown⟩
def fromN : Nat → Int
  | 0 => 0 | 1 => 1048576 | 2 => 2031616 | 3 => 2064384 | 4 => 2088960 | 5 => 2089984 | 6 => 2091008 | 7 => 2092032 | 8 => 2093056 | 9 => 2094080 | 10 => 2095104 | _ => 2097152
def kindN : Nat → Int
  | 0 => 0 | 1 => 2 | 2 => 1 | 3 => 2 | 4 => 3 | 5 => 4 | 6 => 5 | 7 => 6 | 8 => 7 | 9 => 8 | _ => 2
/-- Which part an address lies in. -/
def partAt (x : Int) : Nat := if x < 1048576 then 0 else if x < 2031616 then 1 else if x < 2064384 then 2 else if x < 2088960 then 3 else if x < 2089984 then 4 else if x < 2091008 then 5 else if x < 2092032 then 6 else if x < 2093056 then 7 else if x < 2094080 then 8 else if x < 2095104 then 9 else 10
def whereI (a : Int) : Int := kindN (partAt (a % 2097152))
theorem partAt_lt (x : Int) : partAt x < 11 := by unfold partAt; (repeat' split) <;> omega
theorem below11 (k : Nat) (hk : k < 11) : k = 0 ∨ k = 1 ∨ k = 2 ∨ k = 3 ∨ k = 4 ∨ k = 5 ∨ k = 6 ∨ k = 7 ∨ k = 8 ∨ k = 9 ∨ k = 10 := by omega
theorem fromN_mono (i j : Nat) (h : i ≤ j) (hj : j < 12) : fromN i ≤ fromN j := by
  have : ∀ j : Fin 12, ∀ i : Fin 12, i ≤ j → fromN i ≤ fromN j := by decide
  exact this ⟨j, hj⟩ ⟨i, by omega⟩ h
theorem partAt_in (x : Int) (h0 : 0 ≤ x) (h1 : x < 2097152) : fromN (partAt x) ≤ x ∧ x < fromN (partAt x + 1) := by
  unfold partAt; (repeat' split) <;> simp only [fromN] <;> omega
theorem partAt_iff (x : Int) (h0 : 0 ≤ x) (h1 : x < 2097152) (k : Nat) (hk : k < 11) : fromN k ≤ x ↔ k ≤ partAt x := by
  obtain ⟨a, b⟩ := partAt_in x h0 h1
  have l := partAt_lt x
  constructor
  · intro h
    rcases Nat.lt_or_ge (partAt x) k with c | c
    · have := fromN_mono (partAt x + 1) k c (by omega); omega
    · exact c
  · intro h
    have := fromN_mono k (partAt x) h (by omega); omega
theorem parts_at (k : Nat) (h : k < 11) (w : World) : (Instr.index 127 (.agg partsC) (.int .i64 k)).run Try.prog w = .ok (.agg #[.int .u32 (fromN k), .int .u8 (kindN k)]) w := by
  rcases below11 k h with rfl | rfl | rfl | rfl | rfl | rfl | rfl | rfl | rfl | rfl | rfl
  all_goals (show _ = _; kernel_rfl)
/-- What is where k parts have been passed. -/
def seenN : Nat → Int
  | 0 => 2
  | k + 1 => kindN k
set_option maxHeartbeats 1000000 in
theorem where_any (a : Int) (w : World) (a0 : 0 ≤ a) (a1 : a ≤ 4294967295) :
    Calls Try.prog 49 #[.int .u32 a] w fun e w' => e = .returned (.int .u8 (whereI a)) ∧ Below w.heap.size w w' := by
  have P := Lib.hid (partAt_iff (a % 2097152) (by omega) (by omega))
  have Q := Lib.hid (partAt_lt (a % 2097152))
  go_enter Try.func49, Try.ntmps49
  go_wp2_with (go_at_call 76; refine (parts_any _).mono ?_; rintro e w' ⟨rfl, hb⟩)
  go_loopw [3, 7] (fun s i wr => ∃ k : Nat, k ≤ 11 ∧ i = .int .i64 k ∧ s = .int .u8 (seenN k) ∧ Below w.heap.size w wr ∧ Hid (k ≤ partAt (a % 2097152) + 1)) (fun _ i _ => 11 - (intOf i).toNat)
  case atStart => exact ⟨0, by omega, rfl, rfl, hb, Lib.hid (by omega)⟩
  case round =>
    obtain ⟨k, hk, rfl, rfl, hB, H⟩ := hrel
    have zB := hB.size
    by_cases hlt : k < 11
    · have hx := parts_at k hlt
      by_cases e : fromN k ≤ a % 2097152
      · have H2 := Lib.hid ((P.out k hlt).1 e)
        go_wp2_with fail
        go_roundw
        case rel => exact ⟨k + 1, by omega, by go_num, rfl, by go_grown, Lib.hid (by have := H2.out; omega)⟩
        case measure => simp [intOf]; omega
      · have H2 : Hid (k = partAt (a % 2097152) + 1) := by
          have h1 := H.out
          have h2 := mt (P.out k hlt).2 e
          show _ = _
          omega
        have e' : a % 2097152 < fromN k := by omega
        clear e
        go_wp2_with fail
        go_ret
        exact ⟨by rw [H2.out]; rfl, by go_grown⟩
    · obtain rfl : k = 11 := by omega
      go_wp2_with fail
      go_ret
      refine ⟨?_, hB⟩
      have h1 := H.out
      have h2 := Q.out
      unfold whereI
      rw [show partAt (a % 2097152) = 10 by omega]; rfl
theorem kindN_bd (k : Nat) : 0 ≤ kindN k ∧ kindN k ≤ 8 := by unfold kindN; split <;> omega
theorem whereI_bd (a : Int) : 0 ≤ whereI a ∧ whereI a ≤ 8 := kindN_bd _
def extraB (a : Int) : Bool := whereI a == 3 || whereI a == 4
def regsI (x : Int) : Int := if x = 5 then 16 else if x = 4 then 8 else if x = 3 ∨ x = 8 then 4 else if x = 6 then 2 else if x = 7 then 1 else 0
set_option maxHeartbeats 1000000 in
theorem registers_any (x : Int) (w : World) (h0 : 0 ≤ x) (h1 : x ≤ 8) :
    Calls Try.prog 77 #[.int .u8 x] w fun e w' => e = .returned (.int .i64 (regsI x)) ∧ w = w' := by
  have : x = 0 ∨ x = 1 ∨ x = 2 ∨ x = 3 ∨ x = 4 ∨ x = 5 ∨ x = 6 ∨ x = 7 ∨ x = 8 := by omega
  clear h0 h1
  rcases this with rfl | rfl | rfl | rfl | rfl | rfl | rfl | rfl | rfl
  all_goals
    go_enter Try.func77, Try.ntmps77
    go_wp2
    go_ret
    exact ⟨rfl, rfl⟩
def regI (a : Int) : Int := if regsI (whereI a) = 0 then -1 else offI a % regsI (whereI a)
theorem reg_bd (a : Int) (n : Int) (h : 0 < n) : 0 ≤ offI a % n := Int.emod_nonneg _ (by omega)
set_option maxHeartbeats 1000000 in
theorem reg_any (a : Int) (w : World) (a0 : 0 ≤ a) (a1 : a ≤ 4294967295) :
    Calls Try.prog 50 #[.int .u32 a] w fun e w' => e = .returned (.int .i64 (regI a)) ∧ Below w.heap.size w w' := by
  have xb := whereI_bd a
  have ob : 0 ≤ offI a ∧ offI a ≤ 8191 := by unfold offI; omega
  obtain ⟨x, hx⟩ : ∃ x, whereI a = x := ⟨_, rfl⟩
  unfold regI
  rw [hx] at xb ⊢
  have H := Lib.hid hx
  clear hx
  have : regsI x = 0 ∨ regsI x = 1 ∨ regsI x = 2 ∨ regsI x = 4 ∨ regsI x = 8 ∨ regsI x = 16 := by unfold regsI; (repeat' split) <;> omega
  obtain ⟨n, hn⟩ : ∃ n, regsI x = n := ⟨_, rfl⟩
  rw [hn] at this ⊢
  have HN := Lib.hid hn
  clear hn
  rcases this with rfl | rfl | rfl | rfl | rfl | rfl
  all_goals
    go_enter Try.func50, Try.ntmps50
    go_wp2_with (first | (go_at_call 49; refine (where_any _ _ a0 a1).mono ?_; rw [H.out]; rintro e w' ⟨rfl, hb⟩) | (go_at_call 77; refine (registers_any _ _ xb.1 xb.2).mono ?_; rw [HN.out]; rintro e w' ⟨rfl, rfl⟩) | (go_at_call 78; refine (off_any _ _ a0 a1).mono ?_; rintro e w' ⟨rfl, rfl⟩))
    go_ret
    exact ⟨by simp, hb⟩
end Go.Proofs.Ytjknjlkjpccibaa
namespace Go.Proofs.Ytjknjlkjpccibaa
open Go.RowKit
set_option linter.unusedVariables false
theorem bankI_bd (a : Int) : 0 ≤ bankI a ∧ bankI a ≤ 255 := by unfold bankI; omega
theorem offI_bd (a : Int) : 0 ≤ offI a ∧ offI a ≤ 8191 := by unfold offI; omega
theorem where_rom (a : Int) (h : bankI a < 128) : whereI a = 0 := by
  have : a % 2097152 < 1048576 := by unfold bankI at h; omega
  unfold whereI partAt; rw [if_pos this]; rfl
theorem where_open1 (a : Int) (h0 : 128 ≤ bankI a) (h1 : bankI a < 248) : whereI a = 2 := by
  unfold bankI at h0 h1; unfold whereI partAt; rw [if_neg (by omega), if_pos (by omega)]; rfl
theorem where_ram (a : Int) (h0 : 248 ≤ bankI a) (h1 : bankI a ≤ 251) : whereI a = 1 := by
  unfold bankI at h0 h1; unfold whereI partAt; rw [if_neg (by omega), if_neg (by omega), if_pos (by omega)]; rfl
theorem where_open2 (a : Int) (h0 : 252 ≤ bankI a) (h1 : bankI a < 255) : whereI a = 2 := by
  unfold bankI at h0 h1; unfold whereI partAt; rw [if_neg (by omega), if_neg (by omega), if_neg (by omega), if_pos (by omega)]; rfl
theorem where_open3 (a : Int) (h0 : bankI a = 255) (h1 : 6144 ≤ offI a) : whereI a = 2 := by
  unfold bankI at h0; unfold offI at h1; unfold whereI partAt
  rw [if_neg (by omega), if_neg (by omega), if_neg (by omega), if_neg (by omega), if_neg (by omega), if_neg (by omega), if_neg (by omega), if_neg (by omega), if_neg (by omega), if_neg (by omega)]; rfl
theorem where_unit (a : Int) (h0 : bankI a = 255) (h1 : offI a < 6144) : whereI a = 3 + offI a / 1024 := by
  unfold bankI at h0; unfold offI at h1 ⊢; unfold whereI partAt
  (repeat' split) <;> simp only [kindN] <;> omega
def unitC : Array Value := #[.int .u8 3, .int .u8 4, .int .u8 5, .int .u8 6, .int .u8 7, .int .u8 8]
end Go.Proofs.Ytjknjlkjpccibaa
namespace Go.Proofs.Ytjknjlkjpccibaa
open Go.RowKit
set_option linter.unusedVariables false
set_option linter.unusedSimpArgs false
set_option maxRecDepth 100000
theorem addr_v {b o a : Int} {w : World} (b0 : 0 ≤ b) (b1 : b ≤ 255) (o0 : 0 ≤ o) (o1 : o ≤ 65535) (e : b * 8192 + o % 8192 = a) :
    Calls Try.prog 48 #[.int .u8 b, .int .u16 o] w fun e w' => e = .returned (.int .u32 a) ∧ w = w' := e ▸ addr_any b o w b0 b1 o0 o1
theorem where_v {a k : Int} {w : World} (a0 : 0 ≤ a) (a1 : a ≤ 4294967295) (e : whereI a = k) : Calls Try.prog 49 #[.int .u32 a] w fun e w' => e = .returned (.int .u8 k) ∧ Below w.heap.size w w' := e ▸ where_any a w a0 a1
theorem reg_v {a k : Int} {w : World} (a0 : 0 ≤ a) (a1 : a ≤ 4294967295) (e : regI a = k) : Calls Try.prog 50 #[.int .u32 a] w fun e w' => e = .returned (.int .i64 k) ∧ Below w.heap.size w w' := e ▸ reg_any a w a0 a1
/-- The address of a place of the last bank. -/
def plA (off : Int) : Int := 255 * 8192 + off % 8192
theorem plA_bd (off : Int) (h0 : 0 ≤ off) : 0 ≤ plA off ∧ plA off ≤ 4294967295 := by unfold plA; omega
/-- What is read of a register of the controller, and what the buffer has then. -/
def Hp.ri (d : Hd) (x : Hp) (r : Int) : Int :=
  if r = 2 then mixI x.buf 7 x.q.d else if r = 3 then mixI x.buf 7 (stV x.q.due (upTo d.es x.s 2) (upTo d.es x.s 3)) else x.buf
/-- What is read at a place of a kind, by its register. -/
def Hp.rv (d : Hd) (x : Hp) (k r : Int) : Int :=
  if k = 3 then peekI (d.nv - x.tv) (fun i => d.zv (x.tv + i)) 0
  else if k = 4 then peekI (d.nc - x.tc) (fun i => d.zc (x.tc + i)) 0
  else if k = 5 then x.buf
  else if k = 6 then mixI x.buf 127 x.tm.c
  else if k = 7 then mixI x.buf 255 (x.pt.val (peekI (d.np - x.tp) (fun i => d.zp (x.tp + i)) 0))
  else if k = 8 then x.ri d r
  else 255
def Hp.rd (d : Hd) (x : Hp) (k r : Int) : Hp :=
  if k = 3 then { x with tv := x.tv + 1 }
  else if k = 4 then { x with tc := x.tc + 1 }
  else if k = 6 ∨ k = 8 then { x with buf := x.rv d k r }
  else if k = 7 then { x with buf := x.rv d k r, tp := if x.pt.takes then x.tp + 1 else x.tp }
  else x
def Hp.lim (x : Hp) (n : Nat) : Prop := x.tv ≤ n ∧ x.tc ≤ n ∧ x.tp ≤ n
theorem fp_shift {w : World} {g : Nat} {T : TypeId} {cs : Array Value} {o cb n t : Nat} {z : Nat → Int} (h : FP w g T cs o cb (n - t - 1) (fun i => z (t + (1 + i))) ((t : Int) + 1)) : FP w g T cs o cb (n - (t + 1)) (fun i => z (t + 1 + i)) ((t + 1 : Nat) : Int) :=
  h.congr (by omega) (fun i _ => by rw [Nat.add_assoc]) (by omega)
theorem stV_byte : ∀ t u2 u3 : Bool, 0 ≤ stV t u2 u3 ∧ stV t u2 u3 ≤ 255 := by decide +kernel
theorem Pt.val_byte (s : Pt) (v : Int) (h0 : 0 ≤ v) (h1 : v ≤ 255) : 0 ≤ s.val v ∧ s.val v ≤ 255 := by
  unfold Pt.val
  split
  · split <;> omega
  · omega
theorem qstatus_iv {w : World} {g : Nat} {T : TypeId} {cs : Array Value} {o : Nat} {s : Iq} (h : IQ w g T cs o s) {u2 u3 : Bool} {x : Int} (e : stV s.due u2 u3 = x) :
    Calls Try.prog 17 #[.pointer (some ⟨g, o, none⟩), .bool u2, .bool u3] w fun e w' => e = .returned (.int .u8 x) ∧ Below w.heap.size w w' := e ▸ qstatus_any h u2 u3
section
variable {w : World} {g : Nat} {d : Hd} {b : Hb} {x : Hp}
theorem HP.pbyte (h : HP w g d b x) : 0 ≤ peekI (d.np - x.tp) (fun i => d.zp (x.tp + i)) 0 ∧ peekI (d.np - x.tp) (fun i => d.zp (x.tp + i)) 0 ≤ 255 := by
  obtain ⟨A, c, hb, ho⟩ := h
  obtain ⟨v, _, hs⟩ := ho.p
  exact peekI_byte hs 0
set_option maxHeartbeats 4000000 in
theorem hreadirq_any (h : HP w g d b x) (r : Int) :
    Calls Try.prog 70 #[.pointer (some ⟨g, 0, none⟩), .int .i64 r] w (HpR (.int .u8 (x.ri d r)) g d b { x with buf := x.ri d r } [g] w) := by
  have b0 := h.ok.2.2.1.1
  have b1 := h.ok.2.2.1.2
  have k7 := h.ok.2.2.2.1
  have H := Lib.hid h
  by_cases h2 : r = 2
  · subst h2
    have e : x.ri d 2 = mixI x.buf 7 x.q.d := by unfold Hp.ri; rw [if_pos rfl]
    rw [e]
    have mb := mix_byte x.buf 7 x.q.d b0 b1 (by decide) (by decide) (by omega) (by omega)
    have MB := Lib.hid mb
    clear e h mb b0 b1 k7
    go_enter Try.func70, Try.ntmps70
    go_wp2_with fail
    refine rg_begin (S := fun w' => True) 9 #[false, false, false, false, false, false, false, false, false] (by kernel_rfl) (by kernel_rfl) (by kernel_rfl) ?_ (fun hHeld => ?_)
    · exact trivial
    refine rg_take (i := 0) (d := some 8) (l := #[true, false, false, false, false, false, false, false, false]) (fuel := 8) (v := ?_) rfl (by kernel_rfl) (by kernel_rfl) (by kernel_rfl) (by kernel_rfl) (by kernel_rfl) (fun _ _ _ h => h) (by kernel_rfl) ?_ (by assumption) ?_
    rotate_left 1
    · (intro wS hSw; (try dsimp only at hSw); go_simp; try with_reducible rfl)
    try simp only [Act.put, List.setIfInBounds_toArray, List.set_cons_zero, List.set_cons_succ]
    refine rg_take (i := 1) (d := some 9) (l := #[true, true, false, false, false, false, false, false, false]) (fuel := 7) (v := ?_) rfl (by kernel_rfl) (by kernel_rfl) (by kernel_rfl) (by kernel_rfl) (by kernel_rfl) (fun _ _ _ h => h) (by kernel_rfl) ?_ (by assumption) ?_
    rotate_left 1
    · (intro wS hSw; (try dsimp only at hSw); go_simp; try with_reducible rfl)
    try simp only [Act.put, List.setIfInBounds_toArray, List.set_cons_zero, List.set_cons_succ]
    refine rg_take (i := 2) (d := some 10) (l := #[true, true, true, false, false, false, false, false, false]) (fuel := 6) (v := ?_) rfl (by kernel_rfl) (by kernel_rfl) (by kernel_rfl) (by kernel_rfl) (by kernel_rfl) (fun _ _ _ h => h) (by kernel_rfl) ?_ (by assumption) ?_
    rotate_left 1
    · (intro wS hSw; (try dsimp only at hSw); go_simp; try with_reducible rfl)
    try simp only [Act.put, List.setIfInBounds_toArray, List.set_cons_zero, List.set_cons_succ]
    refine rg_take (i := 3) (d := some 11) (l := #[true, true, true, true, false, false, false, false, false]) (fuel := 5) (v := ?_) rfl (by kernel_rfl) (by kernel_rfl) (by kernel_rfl) (by kernel_rfl) (by kernel_rfl) (fun _ _ _ h => h) (by kernel_rfl) ?_ (by assumption) ?_
    rotate_left 1
    · (intro wS hSw; (try dsimp only at hSw); go_simp; try with_reducible rfl)
    try simp only [Act.put, List.setIfInBounds_toArray, List.set_cons_zero, List.set_cons_succ]
    refine rg_take (i := 4) (d := some 12) (l := #[true, true, true, true, true, false, false, false, false]) (fuel := 4) (v := ?_) rfl (by kernel_rfl) (by kernel_rfl) (by kernel_rfl) (by kernel_rfl) (by kernel_rfl) (fun _ _ _ h => h) (by kernel_rfl) ?_ (by assumption) ?_
    rotate_left 1
    · (intro wS hSw; (try dsimp only at hSw); go_simp; try with_reducible rfl)
    try simp only [Act.put, List.setIfInBounds_toArray, List.set_cons_zero, List.set_cons_succ]
    refine rg_take (i := 5) (d := some 13) (l := #[true, true, true, true, true, true, false, false, false]) (fuel := 3) (v := ?_) rfl (by kernel_rfl) (by kernel_rfl) (by kernel_rfl) (by kernel_rfl) (by kernel_rfl) (fun _ _ _ h => h) (by kernel_rfl) ?_ (by assumption) ?_
    rotate_left 1
    · (intro wS hSw; (try dsimp only at hSw); go_simp; try with_reducible rfl)
    try simp only [Act.put, List.setIfInBounds_toArray, List.set_cons_zero, List.set_cons_succ]
    refine rg_next (i := 6) (l := #[true, true, true, true, true, true, true, false, false]) (fuel := 2) (by kernel_rfl) rfl (by kernel_rfl) (by kernel_rfl) (fun K hK => ?_)
    go_simp
    (go_at_call 12)
    obtain ⟨cs, q1, q2⟩ := (H.out.kp0 (Kp.refl _ _).drew).irq
    refine (qdisable_any q1).mono ?_
    rintro e w' ⟨rfl, rfl⟩
    clear q1 q2 cs
    first | (refine hK.out _ _ ?_ (fun hHeld => ?_)) | (go_wp2_with fail; refine hK.out _ _ ?_ (fun hHeld => ?_))
    · (try dsimp only); try exact trivial
    clear hK K
    try simp only [Act.put, List.setIfInBounds_toArray, List.set_cons_zero, List.set_cons_succ]
    refine rg_next (i := 7) (l := #[true, true, true, true, true, true, true, true, false]) (fuel := 1) (by kernel_rfl) rfl (by kernel_rfl) (by kernel_rfl) (fun K hK => ?_)
    go_simp
    (go_at_call 68)
    obtain ⟨l1, l2, l3⟩ := (H.out.kp0 (Kp.refl _ _).drew).lat
    refine (plread_any l1 l2 7 x.q.d).mono ?_
    rintro e w1 ⟨rfl, rfl⟩
    have Y := Lib.hid (l3 _ MB.out.1 MB.out.2)
    clear l1 l2 l3
    first | (refine hK.out _ _ ?_ (fun hHeld => ?_)) | (go_wp2_with fail; refine hK.out _ _ ?_ (fun hHeld => ?_))
    · (try dsimp only); try exact trivial
    clear hK K
    try simp only [Act.put, List.setIfInBounds_toArray, List.set_cons_zero, List.set_cons_succ]
    refine rg_take (i := 8) (d := some 4) (l := #[true, true, true, true, true, true, true, true, true]) (fuel := 0) (v := ?_) rfl (by kernel_rfl) (by kernel_rfl) (by kernel_rfl) (by kernel_rfl) (by kernel_rfl) (fun _ _ _ h => h) (by kernel_rfl) ?_ (by assumption) ?_
    rotate_left 1
    · (intro wS hSw; (try dsimp only at hSw); go_simp; try with_reducible rfl)
    try simp only [Act.put, List.setIfInBounds_toArray, List.set_cons_zero, List.set_cons_succ]
    refine wpAnyH_done (by kernel_rfl) ?_ _
    go_wp2_with fail
    go_ret
    exact ⟨rfl, Y.out.1, ((Kp.refl [g] w).drew).trans Y.out.2 (by simp)⟩
  · have n2 : (r == 2) = false := by simpa using h2
    by_cases h3 : r = 3
    · subst h3
      obtain ⟨u2, hu2⟩ : ∃ u, upTo d.es x.s 2 = u := ⟨_, rfl⟩
      obtain ⟨u3, hu3⟩ : ∃ u, upTo d.es x.s 3 = u := ⟨_, rfl⟩
      obtain ⟨v, hv⟩ : ∃ v, stV x.q.due u2 u3 = v := ⟨_, rfl⟩
      have e : x.ri d 3 = mixI x.buf 7 v := by unfold Hp.ri; rw [if_neg (by decide), if_pos rfl, hu2, hu3, hv]
      rw [e]
      have vb := stV_byte x.q.due u2 u3
      rw [hv] at vb
      have mb := mix_byte x.buf 7 v b0 b1 (by decide) (by decide) vb.1 vb.2
      have MB := Lib.hid mb
      have U2 := Lib.hid hu2
      have U3 := Lib.hid hu3
      have HV := Lib.hid hv
      clear e h mb b0 b1 k7 h2 n2 hu2 hu3 hv vb
      go_enter Try.func70, Try.ntmps70
      go_wp2_with fail
      refine rg_begin (S := fun w' => True) 17 #[false, false, false, false, false, false, false, false, false, false, false, false, false, false, false, false, false] (by kernel_rfl) (by kernel_rfl) (by kernel_rfl) ?_ (fun hHeld => ?_)
      · exact trivial
      refine rg_take (i := 0) (d := some 18) (l := #[true, false, false, false, false, false, false, false, false, false, false, false, false, false, false, false, false]) (fuel := 16) (v := ?_) rfl (by kernel_rfl) (by kernel_rfl) (by kernel_rfl) (by kernel_rfl) (by kernel_rfl) (fun _ _ _ h => h) (by kernel_rfl) ?_ (by assumption) ?_
      rotate_left 1
      · (intro wS hSw; (try dsimp only at hSw); go_simp; try with_reducible rfl)
      try simp only [Act.put, List.setIfInBounds_toArray, List.set_cons_zero, List.set_cons_succ]
      refine rg_take (i := 1) (d := some 19) (l := #[true, true, false, false, false, false, false, false, false, false, false, false, false, false, false, false, false]) (fuel := 15) (v := ?_) rfl (by kernel_rfl) (by kernel_rfl) (by kernel_rfl) (by kernel_rfl) (by kernel_rfl) (fun _ _ _ h => h) (by kernel_rfl) ?_ (by assumption) ?_
      rotate_left 1
      · (intro wS hSw; (try dsimp only at hSw); go_simp; try with_reducible rfl)
      try simp only [Act.put, List.setIfInBounds_toArray, List.set_cons_zero, List.set_cons_succ]
      refine rg_take (i := 2) (d := some 20) (l := #[true, true, true, false, false, false, false, false, false, false, false, false, false, false, false, false, false]) (fuel := 14) (v := ?_) rfl (by kernel_rfl) (by kernel_rfl) (by kernel_rfl) (by kernel_rfl) (by kernel_rfl) (fun _ _ _ h => h) (by kernel_rfl) ?_ (by assumption) ?_
      rotate_left 1
      · (intro wS hSw; (try dsimp only at hSw); go_simp; try with_reducible rfl)
      try simp only [Act.put, List.setIfInBounds_toArray, List.set_cons_zero, List.set_cons_succ]
      refine rg_take (i := 3) (d := some 21) (l := #[true, true, true, true, false, false, false, false, false, false, false, false, false, false, false, false, false]) (fuel := 13) (v := ?_) rfl (by kernel_rfl) (by kernel_rfl) (by kernel_rfl) (by kernel_rfl) (by kernel_rfl) (fun _ _ _ h => h) (by kernel_rfl) ?_ (by assumption) ?_
      rotate_left 1
      · (intro wS hSw; (try dsimp only at hSw); go_simp; try with_reducible rfl)
      try simp only [Act.put, List.setIfInBounds_toArray, List.set_cons_zero, List.set_cons_succ]
      refine rg_take (i := 4) (d := some 22) (l := #[true, true, true, true, true, false, false, false, false, false, false, false, false, false, false, false, false]) (fuel := 12) (v := ?_) rfl (by kernel_rfl) (by kernel_rfl) (by kernel_rfl) (by kernel_rfl) (by kernel_rfl) (fun _ _ _ h => h) (by kernel_rfl) ?_ (by assumption) ?_
      rotate_left 1
      · (intro wS hSw; (try dsimp only at hSw); go_simp; try with_reducible rfl)
      try simp only [Act.put, List.setIfInBounds_toArray, List.set_cons_zero, List.set_cons_succ]
      refine rg_take (i := 5) (d := some 23) (l := #[true, true, true, true, true, true, false, false, false, false, false, false, false, false, false, false, false]) (fuel := 11) (v := ?_) rfl (by kernel_rfl) (by kernel_rfl) (by kernel_rfl) (by kernel_rfl) (by kernel_rfl) (fun _ _ _ h => h) (by kernel_rfl) ?_ (by assumption) ?_
      rotate_left 1
      · (intro wS hSw; (try dsimp only at hSw); go_simp; try with_reducible rfl)
      try simp only [Act.put, List.setIfInBounds_toArray, List.set_cons_zero, List.set_cons_succ]
      refine rg_take (i := 6) (d := some 24) (l := #[true, true, true, true, true, true, true, false, false, false, false, false, false, false, false, false, false]) (fuel := 10) (v := ?_) rfl (by kernel_rfl) (by kernel_rfl) (by kernel_rfl) (by kernel_rfl) (by kernel_rfl) (fun _ _ _ h => h) (by kernel_rfl) ?_ (by assumption) ?_
      rotate_left 1
      · (intro wS hSw; (try dsimp only at hSw); go_simp; try with_reducible rfl)
      try simp only [Act.put, List.setIfInBounds_toArray, List.set_cons_zero, List.set_cons_succ]
      refine rg_take (i := 7) (d := some 25) (l := #[true, true, true, true, true, true, true, true, false, false, false, false, false, false, false, false, false]) (fuel := 9) (v := ?_) rfl (by kernel_rfl) (by kernel_rfl) (by kernel_rfl) (by kernel_rfl) (by kernel_rfl) (fun _ _ _ h => h) (by kernel_rfl) ?_ (by assumption) ?_
      rotate_left 1
      · (intro wS hSw; (try dsimp only at hSw); go_simp; try with_reducible rfl)
      try simp only [Act.put, List.setIfInBounds_toArray, List.set_cons_zero, List.set_cons_succ]
      refine rg_take (i := 8) (d := some 26) (l := #[true, true, true, true, true, true, true, true, true, false, false, false, false, false, false, false, false]) (fuel := 8) (v := ?_) rfl (by kernel_rfl) (by kernel_rfl) (by kernel_rfl) (by kernel_rfl) (by kernel_rfl) (fun _ _ _ h => h) (by kernel_rfl) ?_ (by assumption) ?_
      rotate_left 1
      · (intro wS hSw; (try dsimp only at hSw); go_simp; try with_reducible rfl)
      try simp only [Act.put, List.setIfInBounds_toArray, List.set_cons_zero, List.set_cons_succ]
      refine rg_take (i := 10) (d := some 28) (l := #[true, true, true, true, true, true, true, true, true, false, true, false, false, false, false, false, false]) (fuel := 7) (v := ?_) rfl (by kernel_rfl) (by kernel_rfl) (by kernel_rfl) (by kernel_rfl) (by kernel_rfl) (fun _ _ _ h => h) (by kernel_rfl) ?_ (by assumption) ?_
      rotate_left 1
      · (intro wS hSw; (try dsimp only at hSw); go_simp; try with_reducible rfl)
      try simp only [Act.put, List.setIfInBounds_toArray, List.set_cons_zero, List.set_cons_succ]
      refine rg_take (i := 11) (d := some 29) (l := #[true, true, true, true, true, true, true, true, true, false, true, true, false, false, false, false, false]) (fuel := 6) (v := ?_) rfl (by kernel_rfl) (by kernel_rfl) (by kernel_rfl) (by kernel_rfl) (by kernel_rfl) (fun _ _ _ h => h) (by kernel_rfl) ?_ (by assumption) ?_
      rotate_left 1
      · (intro wS hSw; (try dsimp only at hSw); go_simp; try with_reducible rfl)
      try simp only [Act.put, List.setIfInBounds_toArray, List.set_cons_zero, List.set_cons_succ]
      refine rg_take (i := 12) (d := some 30) (l := #[true, true, true, true, true, true, true, true, true, false, true, true, true, false, false, false, false]) (fuel := 5) (v := ?_) rfl (by kernel_rfl) (by kernel_rfl) (by kernel_rfl) (by kernel_rfl) (by kernel_rfl) (fun _ _ _ h => h) (by kernel_rfl) ?_ (by assumption) ?_
      rotate_left 1
      · (intro wS hSw; (try dsimp only at hSw); go_simp; try with_reducible rfl)
      try simp only [Act.put, List.setIfInBounds_toArray, List.set_cons_zero, List.set_cons_succ]
      refine rg_next (i := 9) (l := #[true, true, true, true, true, true, true, true, true, true, true, true, true, false, false, false, false]) (fuel := 4) (by kernel_rfl) rfl (by kernel_rfl) (by kernel_rfl) (fun K hK => ?_)
      go_simp
      (go_at_call 65)
      refine (hup_v (H.out.kp0 (Kp.refl _ _).drew).lns.1 2 (by decide) rfl U2.out).mono ?_
      rintro e w' ⟨rfl, rfl⟩
      first | (refine hK.out _ _ ?_ (fun hHeld => ?_)) | (go_wp2_with fail; refine hK.out _ _ ?_ (fun hHeld => ?_))
      · (try dsimp only); try exact trivial
      clear hK K
      try simp only [Act.put, List.setIfInBounds_toArray, List.set_cons_zero, List.set_cons_succ]
      refine rg_next (i := 13) (l := #[true, true, true, true, true, true, true, true, true, true, true, true, true, true, false, false, false]) (fuel := 3) (by kernel_rfl) rfl (by kernel_rfl) (by kernel_rfl) (fun K hK => ?_)
      go_simp
      (go_at_call 65)
      refine (hup_v (H.out.kp0 (Kp.refl _ _).drew).lns.1 3 (by decide) rfl U3.out).mono ?_
      rintro e w' ⟨rfl, rfl⟩
      first | (refine hK.out _ _ ?_ (fun hHeld => ?_)) | (go_wp2_with fail; refine hK.out _ _ ?_ (fun hHeld => ?_))
      · (try dsimp only); try exact trivial
      clear hK K
      try simp only [Act.put, List.setIfInBounds_toArray, List.set_cons_zero, List.set_cons_succ]
      refine rg_next (i := 14) (l := #[true, true, true, true, true, true, true, true, true, true, true, true, true, true, true, false, false]) (fuel := 2) (by kernel_rfl) rfl (by kernel_rfl) (by kernel_rfl) (fun K hK => ?_)
      go_simp
      (go_at_call 17)
      obtain ⟨cs, q1, q2⟩ := (H.out.kp0 (Kp.refl _ _).drew).irq
      refine (qstatus_iv q1 HV.out).mono ?_
      rintro e w1 ⟨rfl, b1⟩
      have H1 := Lib.hid ((H.out.kp0 (Kp.refl _ _).drew).keep b1)
      have K1 : Hid (Kp [g] w w1) := Lib.hid (((Kp.refl [g] w).drew).trans (Kp.of_below (L := [g]) b1) (by simp))
      clear q1 q2 cs b1 H
      first | (refine hK.out _ _ ?_ (fun hHeld => ?_)) | (go_wp2_with fail; refine hK.out _ _ ?_ (fun hHeld => ?_))
      · (try dsimp only); try exact trivial
      clear hK K
      try simp only [Act.put, List.setIfInBounds_toArray, List.set_cons_zero, List.set_cons_succ]
      refine rg_next (i := 15) (l := #[true, true, true, true, true, true, true, true, true, true, true, true, true, true, true, true, false]) (fuel := 1) (by kernel_rfl) rfl (by kernel_rfl) (by kernel_rfl) (fun K hK => ?_)
      go_simp
      (go_at_call 68)
      obtain ⟨l1, l2, l3⟩ := H1.out.lat
      refine (plread_any l1 l2 7 v).mono ?_
      rintro e w2 ⟨rfl, rfl⟩
      have Y := Lib.hid (l3 _ MB.out.1 MB.out.2)
      clear l1 l2 l3
      first | (refine hK.out _ _ ?_ (fun hHeld => ?_)) | (go_wp2_with fail; refine hK.out _ _ ?_ (fun hHeld => ?_))
      · (try dsimp only); try exact trivial
      clear hK K
      try simp only [Act.put, List.setIfInBounds_toArray, List.set_cons_zero, List.set_cons_succ]
      refine rg_take (i := 16) (d := some 4) (l := #[true, true, true, true, true, true, true, true, true, true, true, true, true, true, true, true, true]) (fuel := 0) (v := ?_) rfl (by kernel_rfl) (by kernel_rfl) (by kernel_rfl) (by kernel_rfl) (by kernel_rfl) (fun _ _ _ h => h) (by kernel_rfl) ?_ (by assumption) ?_
      rotate_left 1
      · (intro wS hSw; (try dsimp only at hSw); go_simp; try with_reducible rfl)
      try simp only [Act.put, List.setIfInBounds_toArray, List.set_cons_zero, List.set_cons_succ]
      refine wpAnyH_done (by kernel_rfl) ?_ _
      go_wp2_with fail
      go_ret
      exact ⟨rfl, Y.out.1, K1.out.trans Y.out.2 (by simp)⟩
    · have n3 : (r == 3) = false := by simpa using h3
      have e : x.ri d r = x.buf := by unfold Hp.ri; rw [if_neg h2, if_neg h3]
      rw [e]
      clear e h
      obtain ⟨l1, l2, l3⟩ := H.out.lat
      have L1 := Lib.hid l1
      clear l1 l2 l3
      go_enter Try.func70, Try.ntmps70
      go_wp2_with fail
      refine (pvalue_any L1.out).mono ?_
      rintro e w' ⟨rfl, rfl⟩
      go_wp2_with fail
      go_ret
      exact ⟨rfl, H.out, Kp.refl _ _⟩
end
end Go.Proofs.Ytjknjlkjpccibaa
