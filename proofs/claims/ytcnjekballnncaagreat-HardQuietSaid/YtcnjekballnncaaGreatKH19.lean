/-
  Texts of these proofs, one behind the other: Irq7, Tim0.
-/
import Derived.Test.YtcnjekballnncaaGreatKH15
import Derived.Test.YtcnjekballnncaaGreatKH18
import Derived.Test.YtcnjekballnncaaGreatKH02
namespace Go.Proofs.YtcnjekballnncaaGreat
open Go.RowKit
set_option linter.unusedVariables false
set_option linter.unusedSimpArgs false
set_option maxRecDepth 100000
/-- Who is first. -/
def chI (d : Nat) (t u0 u1 u2 u3 m : Bool) : Int :=
  if u0 = true then 1 else if u1 = true then 2 else if m = false ∧ t = true ∧ d / 4 = 0 then 3 else if m = false ∧ u2 = true ∧ d / 2 % 2 = 0 then 4 else if m = false ∧ u3 = true ∧ d % 2 = 0 then 5 else 0
/-- The bits of those who ask. -/
def stV (t u2 u3 : Bool) : Int := (if u3 = true then 1 else 0) + (if u2 = true then 2 else 0) + (if t = true then 4 else 0)
theorem ch_fin : ∀ (d : Fin 8) (t u0 u1 u2 u3 m : Bool), firstB (d.val : Int) m (askL (askF u0 u1 t u2 u3) 6) = chI d.val t u0 u1 u2 u3 m := by decide +kernel
theorem st_fin : ∀ (t u2 u3 : Bool), stI (askL (askF false false t u2 u3) 6) = stV t u2 u3 := by decide +kernel
theorem of_fin : ∀ (t u2 u3 : Bool), ofTo [u3, u2, t, false, false, false, false, false] 8 = stV t u2 u3 := by decide +kernel
theorem ch_eq {d : Nat} (h : d ≤ 7) (t u0 u1 u2 u3 m : Bool) : firstB (d : Int) m (askL (askF u0 u1 t u2 u3) 6) = chI d t u0 u1 u2 u3 m := ch_fin ⟨d, by omega⟩ t u0 u1 u2 u3 m
theorem chI_bd (d : Nat) (t u0 u1 u2 u3 m : Bool) : 0 ≤ chI d t u0 u1 u2 u3 m ∧ chI d t u0 u1 u2 u3 m ≤ 5 := by
  unfold chI
  repeat' split
  all_goals omega
section
variable {w : World} {g : Nat} {T : TypeId} {cs : Array Value} {o : Nat} {s : Iq}
theorem qchoose_any (h : IQ w g T cs o s) (u0 u1 u2 u3 m : Bool) :
    Calls Tryz.prog 60 #[.pointer (some ⟨g, o, none⟩), .agg #[.bool u0, .bool u1, .bool u2, .bool u3], .bool m] w fun e w' => e = .returned (.int .u8 (chI s.d s.due u0 u1 u2 u3 m)) ∧ Below w.heap.size w w' := by
  rw [← ch_eq h.2.2]
  exact choose_of (W := w) (fun w' k => qdisable_any (h.keep k h.lt)) (fun w' k => qdue_any (h.keep k h.lt)) (Below.refl _ _) u0 u1 u2 u3 m
theorem qstatus_any (h : IQ w g T cs o s) (u2 u3 : Bool) :
    Calls Tryz.prog 105 #[.pointer (some ⟨g, o, none⟩), .bool u2, .bool u3] w fun e w' => e = .returned (.int .u8 (stV s.due u2 u3)) ∧ Below w.heap.size w w' := by
  rw [← st_fin]
  exact status_of (W := w) (fun w' k => qdue_any (h.keep k h.lt)) (Below.refl _ _) u2 u3
end
theorem qchoose_nil (w : World) (u0 u1 u2 u3 m : Bool) :
    Calls Tryz.prog 60 #[.pointer none, .agg #[.bool u0, .bool u1, .bool u2, .bool u3], .bool m] w fun e w' => e = .returned (.int .u8 (chI 0 false u0 u1 u2 u3 m)) ∧ Below w.heap.size w w' := by
  rw [← ch_eq (by omega)]
  exact choose_of (W := w) (fun w' k => qdisable_nil _) (fun w' k => qdue_nil _) (Below.refl _ _) u0 u1 u2 u3 m
theorem qstatus_nil (w : World) (u2 u3 : Bool) :
    Calls Tryz.prog 105 #[.pointer none, .bool u2, .bool u3] w fun e w' => e = .returned (.int .u8 (stV false u2 u3)) ∧ Below w.heap.size w w' := by
  rw [← st_fin]
  exact status_of (W := w) (fun w' k => qdue_nil _) (Below.refl _ _) u2 u3
/-- The reference's controller. -/
def RQ (w : World) (g : Nat) (s : Iq) : Prop := Blk w g 99 #[.int .u8 s.d, .bool s.due] ∧ s.d ≤ 7
section
variable {w w' : World} {g : Nat} {s : Iq}
theorem RQ.kp {L : List Nat} (h : RQ w g s) (k : Kp L w w') (hL : g ∉ L) : RQ w' g s := ⟨h.1.kp k hL, h.2⟩
theorem RQ.keep {n : Nat} (h : RQ w g s) (k : Below n w w') (hn : g < n) : RQ w' g s := ⟨h.1.below k hn, h.2⟩
def RqR (v : Value) (g : Nat) (s : Iq) (w : World) (e : Ending) (w' : World) : Prop := e = .returned v ∧ RQ w' g s ∧ Kp [g] w w'
theorem rqwrite_any (h : RQ w g s) (reg b : Int) (b0 : 0 ≤ b) (b1 : b ≤ 255) :
    Calls Tryz.prog 91 #[.pointer (some ⟨g, 0, none⟩), .int .i64 reg, .int .u8 b] w (RqR (.tuple #[]) g (s.wr reg b) w) := by
  obtain ⟨hb, hk⟩ := h
  have c0 : w.cell? ⟨g, 0, none⟩ = some (.int .u8 s.d) := hb.cell 0
  have c1 : w.cell? ⟨g, 1, none⟩ = some (.bool s.due) := hb.cell 1
  have f0 := hb.frozen 0
  have f1 := hb.frozen 1
  have HB := Lib.hid hb
  have HK := Lib.hid hk
  clear hb hk
  by_cases h2 : reg = 2
  · subst h2
    have e : s.wr 2 b = ⟨(b % 8).toNat, s.due⟩ := by unfold Iq.wr; rw [if_pos rfl]
    rw [e]
    have i1 : ((b % 8).toNat : Int) = b % 8 := by omega
    have P1 : Hid (RQ (w.setCell ⟨g, 0, none⟩ (.int .u8 (b % 8))) g ⟨(b % 8).toNat, s.due⟩) := Lib.hid ⟨by rw [show (⟨(b % 8).toNat, s.due⟩ : Iq).d = (b % 8).toNat from rfl, i1]; exact HB.out.set_ 0 _, by dsimp only; omega⟩
    have P2 : Hid (Kp [g] w (w.setCell ⟨g, 0, none⟩ (.int .u8 (b % 8)))) := Lib.hid ((Kp.refl _ _).setCell (.inl (by simp)) _)
    clear e i1
    go_enter Tryz.func91, Tryz.ntmps91
    go_wp2
    first | go_end0 | refine bodyPost_ret (results_none rfl _ _ _) rfl ?_
    exact ⟨rfl, P1.out, P2.out⟩
  · have n0 : (reg == 2) = false := by simpa using h2
    by_cases h3 : reg = 3
    · subst h3
      have e : s.wr 3 b = ⟨s.d, false⟩ := by unfold Iq.wr; rw [if_neg (by omega), if_pos rfl]
      rw [e]
      clear e h2 n0
      go_enter Tryz.func91, Tryz.ntmps91
      go_wp2
      first | go_end0 | refine bodyPost_ret (results_none rfl _ _ _) rfl ?_
      exact ⟨rfl, ⟨HB.out.set_ 1 _, HK.out⟩, (Kp.refl _ _).setCell (.inl (by simp)) _⟩
    · have e : s.wr reg b = s := by unfold Iq.wr; rw [if_neg h2, if_neg h3]
      rw [e]
      have n1 : (reg == 3) = false := by simpa using h3
      clear e
      go_enter Tryz.func91, Tryz.ntmps91
      go_wp2
      first | go_end0 | refine bodyPost_ret (results_none rfl _ _ _) rfl ?_
      exact ⟨rfl, ⟨HB.out, HK.out⟩, Kp.refl _ _⟩
theorem rqstatus_any (h : RQ w g s) (u2 u3 : Bool) :
    Calls Tryz.prog 87 #[.pointer (some ⟨g, 0, none⟩), .bool u2, .bool u3] w fun e w' => e = .returned (.int .u8 (stV s.due u2 u3)) ∧ Below w.heap.size w w' := by
  have c1 : w.cell? ⟨g, 1, none⟩ = some (.bool s.due) := h.1.cell 1
  have hof := of_fin s.due u2 u3
  have HO := Lib.hid hof
  clear h hof
  go_enter Tryz.func87, Tryz.ntmps87
  go_wp2_with fail
  refine (of_any u3 u2 s.due false false false false false w).mono ?_
  rw [HO.out]
  rintro e w1 ⟨rfl, h1⟩
  go_wp2_with fail
  go_ret
  exact ⟨rfl, h1⟩
set_option maxHeartbeats 2000000 in
theorem rqchoose_any (h : RQ w g s) (u0 u1 u2 u3 m : Bool) :
    Calls Tryz.prog 92 #[.pointer (some ⟨g, 0, none⟩), .agg #[.bool u0, .bool u1, .bool u2, .bool u3], .bool m] w fun e w' => e = .returned (.int .u8 (chI s.d s.due u0 u1 u2 u3 m)) ∧ Below w.heap.size w w' := by
  obtain ⟨hb, hk⟩ := h
  obtain ⟨d, due⟩ := s
  have c0 : (w.alloc (.cells #[.bool u0, .bool u1, .bool u2, .bool u3] 74)).cell? ⟨g, 0, none⟩ = some (.int .u8 d) := (hb.alloc _).cell 0
  have c1 : (w.alloc (.cells #[.bool u0, .bool u1, .bool u2, .bool u3] 74)).cell? ⟨g, 1, none⟩ = some (.bool due) := (hb.alloc _).cell 1
  clear hb
  dsimp only at hk ⊢
  have h0 : (d : Int) / 4 = ((d / 4 : Nat) : Int) := by omega
  have h1 : (d : Int) / 2 % 2 = ((d / 2 % 2 : Nat) : Int) := by omega
  have h2 : (d : Int) % 2 = ((d % 2 : Nat) : Int) := by omega
  have h3 : d / 4 < 2 ∧ d / 2 % 2 < 2 ∧ d % 2 < 2 := by omega
  cases u0 with
  | true =>
    have e : chI d due true u1 u2 u3 m = 1 := by unfold chI; simp [*]
    rw [e]
    clear e h0 h1 h2 h3 hk
    go_enter Tryz.func92, Tryz.ntmps92
    go_wp2
    go_ret
    exact ⟨rfl, (Below.refl _ _).alloc (Nat.le_refl _) _⟩
  | false =>
  cases u1 with
  | true =>
    have e : chI d due false true u2 u3 m = 2 := by unfold chI; simp [*]
    rw [e]
    clear e h0 h1 h2 h3 hk
    go_enter Tryz.func92, Tryz.ntmps92
    go_wp2
    go_ret
    exact ⟨rfl, (Below.refl _ _).alloc (Nat.le_refl _) _⟩
  | false =>
  cases m with
  | true =>
    have e : chI d due false false u2 u3 true = 0 := by unfold chI; simp [*]
    rw [e]
    clear e h0 h1 h2 h3 hk
    go_enter Tryz.func92, Tryz.ntmps92
    go_wp2
    go_ret
    exact ⟨rfl, (Below.refl _ _).alloc (Nat.le_refl _) _⟩
  | false =>
  cases due with
  | false =>
    cases u2 with
    | false =>
      cases u3 with
      | false =>
        have e : chI d false false false false false false = 0 := by unfold chI; simp [*]
        rw [e]
        clear e h0 h1 h2 h3 hk
        go_enter Tryz.func92, Tryz.ntmps92
        go_wp2
        go_ret
        exact ⟨rfl, (Below.refl _ _).alloc (Nat.le_refl _) _⟩
      | true =>
        by_cases x1 : d % 2 = 0
        · have x1' : (d : Int) % 2 = 0 := by omega
          have e : chI d false false false false true false = 5 := by unfold chI; simp [*]
          rw [e]
          clear e h0 h1 h2 h3 hk
          go_enter Tryz.func92, Tryz.ntmps92
          go_wp2
          go_ret
          exact ⟨rfl, (Below.refl _ _).alloc (Nat.le_refl _) _⟩
        · have x1' : (d : Int) % 2 = 1 := by omega
          have e : chI d false false false false true false = 0 := by unfold chI; simp [*]
          rw [e]
          clear e h0 h1 h2 h3 hk
          go_enter Tryz.func92, Tryz.ntmps92
          go_wp2
          go_ret
          exact ⟨rfl, (Below.refl _ _).alloc (Nat.le_refl _) _⟩
    | true =>
      by_cases x2 : d / 2 % 2 = 0
      · have x2' : (d : Int) / 2 % 2 = 0 := by omega
        have e : chI d false false false true u3 false = 4 := by unfold chI; simp [*]
        rw [e]
        clear e h0 h1 h2 h3 hk
        go_enter Tryz.func92, Tryz.ntmps92
        go_wp2
        go_ret
        exact ⟨rfl, (Below.refl _ _).alloc (Nat.le_refl _) _⟩
      · have x2' : (d : Int) / 2 % 2 = 1 := by omega
        cases u3 with
        | false =>
          have e : chI d false false false true false false = 0 := by unfold chI; simp [*]
          rw [e]
          clear e h0 h1 h2 h3 hk
          go_enter Tryz.func92, Tryz.ntmps92
          go_wp2
          go_ret
          exact ⟨rfl, (Below.refl _ _).alloc (Nat.le_refl _) _⟩
        | true =>
          by_cases x1 : d % 2 = 0
          · have x1' : (d : Int) % 2 = 0 := by omega
            have e : chI d false false false true true false = 5 := by unfold chI; simp [*]
            rw [e]
            clear e h0 h1 h2 h3 hk
            go_enter Tryz.func92, Tryz.ntmps92
            go_wp2
            go_ret
            exact ⟨rfl, (Below.refl _ _).alloc (Nat.le_refl _) _⟩
          · have x1' : (d : Int) % 2 = 1 := by omega
            have e : chI d false false false true true false = 0 := by unfold chI; simp [*]
            rw [e]
            clear e h0 h1 h2 h3 hk
            go_enter Tryz.func92, Tryz.ntmps92
            go_wp2
            go_ret
            exact ⟨rfl, (Below.refl _ _).alloc (Nat.le_refl _) _⟩
  | true =>
    by_cases x4 : d / 4 = 0
    · have x4' : (d : Int) / 4 = 0 := by omega
      have e : chI d true false false u2 u3 false = 3 := by unfold chI; simp [*]
      rw [e]
      clear e h0 h1 h2 h3 hk
      go_enter Tryz.func92, Tryz.ntmps92
      go_wp2
      go_ret
      exact ⟨rfl, (Below.refl _ _).alloc (Nat.le_refl _) _⟩
    · have x4' : (d : Int) / 4 = 1 := by omega
      cases u2 with
      | false =>
        cases u3 with
        | false =>
          have e : chI d true false false false false false = 0 := by unfold chI; simp [*]
          rw [e]
          clear e h0 h1 h2 h3 hk
          go_enter Tryz.func92, Tryz.ntmps92
          go_wp2
          go_ret
          exact ⟨rfl, (Below.refl _ _).alloc (Nat.le_refl _) _⟩
        | true =>
          by_cases x1 : d % 2 = 0
          · have x1' : (d : Int) % 2 = 0 := by omega
            have e : chI d true false false false true false = 5 := by unfold chI; simp [*]
            rw [e]
            clear e h0 h1 h2 h3 hk
            go_enter Tryz.func92, Tryz.ntmps92
            go_wp2
            go_ret
            exact ⟨rfl, (Below.refl _ _).alloc (Nat.le_refl _) _⟩
          · have x1' : (d : Int) % 2 = 1 := by omega
            have e : chI d true false false false true false = 0 := by unfold chI; simp [*]
            rw [e]
            clear e h0 h1 h2 h3 hk
            go_enter Tryz.func92, Tryz.ntmps92
            go_wp2
            go_ret
            exact ⟨rfl, (Below.refl _ _).alloc (Nat.le_refl _) _⟩
      | true =>
        by_cases x2 : d / 2 % 2 = 0
        · have x2' : (d : Int) / 2 % 2 = 0 := by omega
          have e : chI d true false false true u3 false = 4 := by unfold chI; simp [*]
          rw [e]
          clear e h0 h1 h2 h3 hk
          go_enter Tryz.func92, Tryz.ntmps92
          go_wp2
          go_ret
          exact ⟨rfl, (Below.refl _ _).alloc (Nat.le_refl _) _⟩
        · have x2' : (d : Int) / 2 % 2 = 1 := by omega
          cases u3 with
          | false =>
            have e : chI d true false false true false false = 0 := by unfold chI; simp [*]
            rw [e]
            clear e h0 h1 h2 h3 hk
            go_enter Tryz.func92, Tryz.ntmps92
            go_wp2
            go_ret
            exact ⟨rfl, (Below.refl _ _).alloc (Nat.le_refl _) _⟩
          | true =>
            by_cases x1 : d % 2 = 0
            · have x1' : (d : Int) % 2 = 0 := by omega
              have e : chI d true false false true true false = 5 := by unfold chI; simp [*]
              rw [e]
              clear e h0 h1 h2 h3 hk
              go_enter Tryz.func92, Tryz.ntmps92
              go_wp2
              go_ret
              exact ⟨rfl, (Below.refl _ _).alloc (Nat.le_refl _) _⟩
            · have x1' : (d : Int) % 2 = 1 := by omega
              have e : chI d true false false true true false = 0 := by unfold chI; simp [*]
              rw [e]
              clear e h0 h1 h2 h3 hk
              go_enter Tryz.func92, Tryz.ntmps92
              go_wp2
              go_ret
              exact ⟨rfl, (Below.refl _ _).alloc (Nat.le_refl _) _⟩
end
end Go.Proofs.YtcnjekballnncaaGreat
namespace Go.Proofs.YtcnjekballnncaaGreat
set_option linter.unusedVariables false
/-- What is counted behind a tick. -/
def tkS (r c : Nat) : Nat := if c = 0 then r else c - 1
/-- What is counted behind n ticks, and how often it was over. -/
def tkC (r : Nat) : Nat → Nat → Nat
  | 0, c => c
  | n + 1, c => tkC r n (tkS r c)
def tkO (r : Nat) : Nat → Nat → Nat
  | 0, _ => 0
  | n + 1, c => (if c = 0 then 1 else 0) + tkO r n (tkS r c)
theorem tkC_add (r a b c : Nat) : tkC r (a + b) c = tkC r b (tkC r a c) := by
  induction a generalizing c with
  | zero => simp [tkC]
  | succ a ih => rw [Nat.add_right_comm]; simp only [tkC]; exact ih _
theorem tkO_add (r a b c : Nat) : tkO r (a + b) c = tkO r a c + tkO r b (tkC r a c) := by
  induction a generalizing c with
  | zero => simp [tkC, tkO]
  | succ a ih => rw [Nat.add_right_comm]; simp only [tkC, tkO]; rw [ih]; omega
theorem tkO_le (r n c : Nat) : tkO r n c ≤ n := by
  induction n generalizing c with
  | zero => simp [tkO]
  | succ n ih => simp only [tkO]; have := ih (tkS r c); split <;> omega
theorem tkS_le {r c m : Nat} (h : r ≤ m) (h' : c ≤ m) : tkS r c ≤ m := by unfold tkS; split <;> omega
theorem tkC_le {r n c m : Nat} (h : r ≤ m) (h' : c ≤ m) : tkC r n c ≤ m := by
  induction n generalizing c with
  | zero => simpa [tkC] using h'
  | succ n ih => simp only [tkC]; exact ih (tkS_le h h')
theorem tk_loop {r m c : Nat} (h : tkC r m c = c) (k : Nat) : tkC r (k * m) c = c ∧ tkO r (k * m) c = k * tkO r m c := by
  induction k with
  | zero => simp [tkC, tkO]
  | succ k ih =>
    rw [Nat.succ_mul, tkC_add, tkO_add, ih.1, ih.2, h]
    exact ⟨rfl, by rw [Nat.succ_mul]⟩
theorem tk_down {r n c : Nat} (h : n ≤ c) : tkC r n c = c - n ∧ tkO r n c = 0 := by
  induction n generalizing c with
  | zero => simp [tkC, tkO]
  | succ n ih =>
    have e : tkS r c = c - 1 := by unfold tkS; rw [if_neg (by omega)]
    obtain ⟨a, b⟩ := ih (c := c - 1) (by omega)
    simp only [tkC, tkO, e]
    rw [a, b, if_neg (by omega)]
    omega
theorem tk_over (r c : Nat) : tkC r (c + 1) c = r ∧ tkO r (c + 1) c = 1 := by
  obtain ⟨a, b⟩ := tk_down (r := r) (Nat.le_refl c)
  rw [tkC_add, tkO_add, a, b]
  simp [tkC, tkO, tkS]
theorem tk_round {r c : Nat} (h : c ≤ r) : tkC r (r + 1) c = c ∧ tkO r (r + 1) c = 1 := by
  obtain ⟨a, b⟩ := tk_over r c
  obtain ⟨x, y⟩ := tk_down (r := r) (n := r - c) (c := r) (by omega)
  rw [show r + 1 = (c + 1) + (r - c) by omega, tkC_add, tkO_add, a, b, x, y]
  omega
/-- From where it begins again. -/
theorem tk_begun (r q : Nat) : tkC r q r = r - q % (r + 1) := by
  have e := Nat.div_add_mod' q (r + 1)
  have l := Nat.mod_lt q (by omega : 0 < r + 1)
  obtain ⟨a, b⟩ := tk_loop (tk_round (Nat.le_refl r)).1 (q / (r + 1))
  rw [← e, tkC_add, a, (tk_down (by omega)).1, e]
theorem tk_rounds (r c k : Nat) : tkO r (c + 1 + k * (r + 1)) c = k + 1 := by
  obtain ⟨a, b⟩ := tk_over r c
  obtain ⟨x, y⟩ := tk_loop (tk_round (Nat.le_refl r)).1 k
  rw [tkO_add, a, b, y, (tk_round (Nat.le_refl r)).2]
  omega
structure Tm where
  gone : Nat
  c : Nat
  r : Nat
  on : Bool
def Tm.ok (s : Tm) : Prop := s.gone < 3072 ∧ s.c ≤ 127 ∧ s.r ≤ 127
def Tm.new : Tm := ⟨0, 0, 0, false⟩
theorem Tm.new_ok : Tm.new.ok := ⟨by decide, by decide, by decide⟩
/-- It goes on by so many master clocks. -/
def Tm.goN (s : Tm) (n : Nat) : Tm := if s.on = true then ⟨(s.gone + n) % 3072, tkC s.r ((s.gone + n) / 3072) s.c, s.r, true⟩ else s
def Tm.overN (s : Tm) (n : Nat) : Nat := if s.on = true then tkO s.r ((s.gone + n) / 3072) s.c else 0
def Tm.wr (s : Tm) (reg b : Int) : Tm :=
  if reg = 0 then ⟨s.gone, s.c, (b % 128).toNat, s.on⟩
  else if reg = 1 then if b % 2 = 1 then if s.on = true then s else ⟨0, s.r, s.r, true⟩ else ⟨s.gone, s.c, s.r, false⟩
  else s
theorem Tm.go_ok {s : Tm} (h : s.ok) (n : Nat) : (s.goN n).ok := by
  obtain ⟨a, b, c⟩ := h
  unfold Tm.goN
  split
  · exact ⟨Nat.mod_lt _ (by omega), tkC_le c b, c⟩
  · exact ⟨a, b, c⟩
theorem Tm.wr_ok {s : Tm} (h : s.ok) (reg b : Int) : (s.wr reg b).ok := by
  obtain ⟨a1, a2, a3⟩ := h
  unfold Tm.wr
  repeat' split
  all_goals (refine ⟨?_, ?_, ?_⟩ <;> (try dsimp only) <;> omega)
theorem Tm.over_le {s : Tm} (h : s.ok) (n : Nat) : s.overN n ≤ n := by
  obtain ⟨a, _, _⟩ := h
  unfold Tm.overN
  split
  · exact Nat.le_trans (tkO_le _ _ _) (by omega)
  · omega
/-- Gone on in parts it is as gone on at once. -/
theorem Tm.go_add {s : Tm} (h : s.ok) (a b : Nat) : s.goN (a + b) = (s.goN a).goN b ∧ s.overN (a + b) = s.overN a + (s.goN a).overN b := by
  obtain ⟨g, c, r, on⟩ := s
  cases on with
  | false => simp [Tm.goN, Tm.overN]
  | true =>
    have e1 : (g + (a + b)) % 3072 = ((g + a) % 3072 + b) % 3072 := by omega
    have e2 : (g + (a + b)) / 3072 = (g + a) / 3072 + ((g + a) % 3072 + b) / 3072 := by omega
    simp only [Tm.goN, Tm.overN, if_true]
    rw [e1, e2, tkC_add, tkO_add]
    exact ⟨rfl, rfl⟩
end Go.Proofs.YtcnjekballnncaaGreat
