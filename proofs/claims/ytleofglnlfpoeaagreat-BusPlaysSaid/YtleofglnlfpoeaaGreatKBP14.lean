/-
  Texts of these proofs, one behind the other: Irq7, Tim0, Tim1.
-/
import Derived.Test.YtleofglnlfpoeaaGreatKBP11
import Derived.Test.YtleofglnlfpoeaaGreatKBP13
import Derived.Test.YtleofglnlfpoeaaGreatKBP01
import Derived.Test.YtleofglnlfpoeaaGreatKBP03
import Derived.Test.YtleofglnlfpoeaaGreatKBP07
import Derived.Test.YtleofglnlfpoeaaGreatKBP09
namespace Go.Proofs.YtleofglnlfpoeaaGreat
open Go.RowKit
set_option linter.unusedVariables false
set_option linter.unusedSimpArgs false
set_option maxRecDepth 100000
/-- Who is first. -/
def chI (d : Nat) (t u0 u1 u2 u3 m : Bool) : Int :=
  if u0 = true then 1 else if u1 = true then 2 else if m = false ∧ t = true ∧ d / 4 = 0 then 3 else if m = false ∧ u2 = true ∧ d / 2 % 2 = 0 then 4 else if m = false ∧ u3 = true ∧ d % 2 = 0 then 5 else 0
/-- The bits of those who ask. -/
def stV (t u2 u3 : Bool) : Int := (if u3 = true then 1 else 0) + (if u2 = true then 2 else 0) + (if t = true then 4 else 0)
theorem ch_fin : ∀ (d : Fin 8) (t u0 u1 u2 u3 m : Bool), firstB (d.val : Int) m (askL (askF u0 u1 t u2 u3) 6) = chI d.val t u0 u1 u2 u3 m := by decide +kernel
theorem st_fin : ∀ (t u2 u3 : Bool), stI (askL (askF false false t u2 u3) 6) = stV t u2 u3 := by decide +kernel
theorem of_fin : ∀ (t u2 u3 : Bool), ofTo [u3, u2, t, false, false, false, false, false] 8 = stV t u2 u3 := by decide +kernel
theorem ch_eq {d : Nat} (h : d ≤ 7) (t u0 u1 u2 u3 m : Bool) : firstB (d : Int) m (askL (askF u0 u1 t u2 u3) 6) = chI d t u0 u1 u2 u3 m := ch_fin ⟨d, by omega⟩ t u0 u1 u2 u3 m
section
variable {w : World} {g : Nat} {T : TypeId} {cs : Array Value} {o : Nat} {s : Iq}
theorem qchoose_any (h : IQ w g T cs o s) (u0 u1 u2 u3 m : Bool) :
    Calls Tryz.prog 119 #[.pointer (some ⟨g, o, none⟩), .agg #[.bool u0, .bool u1, .bool u2, .bool u3], .bool m] w fun e w' => e = .returned (.int .u8 (chI s.d s.due u0 u1 u2 u3 m)) ∧ Below w.heap.size w w' := by
  rw [← ch_eq h.2.2]
  exact choose_of (W := w) (fun w' k => qdisable_any (h.keep k h.lt)) (fun w' k => qdue_any (h.keep k h.lt)) (Below.refl _ _) u0 u1 u2 u3 m
theorem qstatus_any (h : IQ w g T cs o s) (u2 u3 : Bool) :
    Calls Tryz.prog 179 #[.pointer (some ⟨g, o, none⟩), .bool u2, .bool u3] w fun e w' => e = .returned (.int .u8 (stV s.due u2 u3)) ∧ Below w.heap.size w w' := by
  rw [← st_fin]
  exact status_of (W := w) (fun w' k => qdue_any (h.keep k h.lt)) (Below.refl _ _) u2 u3
end
/-- The reference's controller. -/
def RQ (w : World) (g : Nat) (s : Iq) : Prop := Blk w g 105 #[.int .u8 s.d, .bool s.due] ∧ s.d ≤ 7
section
variable {w w' : World} {g : Nat} {s : Iq}
theorem RQ.kp {L : List Nat} (h : RQ w g s) (k : Kp L w w') (hL : g ∉ L) : RQ w' g s := ⟨h.1.kp k hL, h.2⟩
theorem RQ.keep {n : Nat} (h : RQ w g s) (k : Below n w w') (hn : g < n) : RQ w' g s := ⟨h.1.below k hn, h.2⟩
def RqR (v : Value) (g : Nat) (s : Iq) (w : World) (e : Ending) (w' : World) : Prop := e = .returned v ∧ RQ w' g s ∧ Kp [g] w w'
theorem rqwrite_any (h : RQ w g s) (reg b : Int) (b0 : 0 ≤ b) (b1 : b ≤ 255) :
    Calls Tryz.prog 148 #[.pointer (some ⟨g, 0, none⟩), .int .i64 reg, .int .u8 b] w (RqR (.tuple #[]) g (s.wr reg b) w) := by
  obtain ⟨hb, hk⟩ := h
  have c0 : w.cell? ⟨g, 0, none⟩ = some (.int .u8 s.d) := hb.cell 0
  have c1 : w.cell? ⟨g, 1, none⟩ = some (.bool s.due) := hb.cell 1
  have f0 := hb.frozen 0
  have f1 := hb.frozen 1
  have HB := Lib.hid hb
  have HK := Lib.hid hk
  clear hb hk
  by_cases h2 : reg = 2
  · subst h2
    have e : s.wr 2 b = ⟨(b % 8).toNat, s.due⟩ := by unfold Iq.wr; rw [if_pos rfl]
    rw [e]
    have i1 : ((b % 8).toNat : Int) = b % 8 := by omega
    have P1 : Hid (RQ (w.setCell ⟨g, 0, none⟩ (.int .u8 (b % 8))) g ⟨(b % 8).toNat, s.due⟩) := Lib.hid ⟨by rw [show (⟨(b % 8).toNat, s.due⟩ : Iq).d = (b % 8).toNat from rfl, i1]; exact HB.out.set_ 0 _, by dsimp only; omega⟩
    have P2 : Hid (Kp [g] w (w.setCell ⟨g, 0, none⟩ (.int .u8 (b % 8)))) := Lib.hid ((Kp.refl _ _).setCell (.inl (by simp)) _)
    clear e i1
    go_enter Tryz.func148, Tryz.ntmps148
    go_wp2
    first | go_end0 | refine bodyPost_ret (results_none rfl _ _ _) rfl ?_
    exact ⟨rfl, P1.out, P2.out⟩
  · have n0 : (reg == 2) = false := by simpa using h2
    by_cases h3 : reg = 3
    · subst h3
      have e : s.wr 3 b = ⟨s.d, false⟩ := by unfold Iq.wr; rw [if_neg (by omega), if_pos rfl]
      rw [e]
      clear e h2 n0
      go_enter Tryz.func148, Tryz.ntmps148
      go_wp2
      first | go_end0 | refine bodyPost_ret (results_none rfl _ _ _) rfl ?_
      exact ⟨rfl, ⟨HB.out.set_ 1 _, HK.out⟩, (Kp.refl _ _).setCell (.inl (by simp)) _⟩
    · have e : s.wr reg b = s := by unfold Iq.wr; rw [if_neg h2, if_neg h3]
      rw [e]
      have n1 : (reg == 3) = false := by simpa using h3
      clear e
      go_enter Tryz.func148, Tryz.ntmps148
      go_wp2
      first | go_end0 | refine bodyPost_ret (results_none rfl _ _ _) rfl ?_
      exact ⟨rfl, ⟨HB.out, HK.out⟩, Kp.refl _ _⟩
theorem rqstatus_any (h : RQ w g s) (u2 u3 : Bool) :
    Calls Tryz.prog 144 #[.pointer (some ⟨g, 0, none⟩), .bool u2, .bool u3] w fun e w' => e = .returned (.int .u8 (stV s.due u2 u3)) ∧ Below w.heap.size w w' := by
  have c1 : w.cell? ⟨g, 1, none⟩ = some (.bool s.due) := h.1.cell 1
  have hof := of_fin s.due u2 u3
  have HO := Lib.hid hof
  clear h hof
  go_enter Tryz.func144, Tryz.ntmps144
  go_wp2_with fail
  refine (of_any u3 u2 s.due false false false false false w).mono ?_
  rw [HO.out]
  rintro e w1 ⟨rfl, h1⟩
  go_wp2_with fail
  go_ret
  exact ⟨rfl, h1⟩
set_option maxHeartbeats 2000000 in
theorem rqchoose_any (h : RQ w g s) (u0 u1 u2 u3 m : Bool) :
    Calls Tryz.prog 106 #[.pointer (some ⟨g, 0, none⟩), .agg #[.bool u0, .bool u1, .bool u2, .bool u3], .bool m] w fun e w' => e = .returned (.int .u8 (chI s.d s.due u0 u1 u2 u3 m)) ∧ Below w.heap.size w w' := by
  obtain ⟨hb, hk⟩ := h
  obtain ⟨d, due⟩ := s
  have c0 : (w.alloc (.cells #[.bool u0, .bool u1, .bool u2, .bool u3] 78)).cell? ⟨g, 0, none⟩ = some (.int .u8 d) := (hb.alloc _).cell 0
  have c1 : (w.alloc (.cells #[.bool u0, .bool u1, .bool u2, .bool u3] 78)).cell? ⟨g, 1, none⟩ = some (.bool due) := (hb.alloc _).cell 1
  clear hb
  dsimp only at hk ⊢
  have h0 : (d : Int) / 4 = ((d / 4 : Nat) : Int) := by omega
  have h1 : (d : Int) / 2 % 2 = ((d / 2 % 2 : Nat) : Int) := by omega
  have h2 : (d : Int) % 2 = ((d % 2 : Nat) : Int) := by omega
  have h3 : d / 4 < 2 ∧ d / 2 % 2 < 2 ∧ d % 2 < 2 := by omega
  cases u0 with
  | true =>
    have e : chI d due true u1 u2 u3 m = 1 := by unfold chI; simp [*]
    rw [e]
    clear e h0 h1 h2 h3 hk
    go_enter Tryz.func106, Tryz.ntmps106
    go_wp2
    go_ret
    exact ⟨rfl, (Below.refl _ _).alloc (Nat.le_refl _) _⟩
  | false =>
  cases u1 with
  | true =>
    have e : chI d due false true u2 u3 m = 2 := by unfold chI; simp [*]
    rw [e]
    clear e h0 h1 h2 h3 hk
    go_enter Tryz.func106, Tryz.ntmps106
    go_wp2
    go_ret
    exact ⟨rfl, (Below.refl _ _).alloc (Nat.le_refl _) _⟩
  | false =>
  cases m with
  | true =>
    have e : chI d due false false u2 u3 true = 0 := by unfold chI; simp [*]
    rw [e]
    clear e h0 h1 h2 h3 hk
    go_enter Tryz.func106, Tryz.ntmps106
    go_wp2
    go_ret
    exact ⟨rfl, (Below.refl _ _).alloc (Nat.le_refl _) _⟩
  | false =>
  cases due with
  | false =>
    cases u2 with
    | false =>
      cases u3 with
      | false =>
        have e : chI d false false false false false false = 0 := by unfold chI; simp [*]
        rw [e]
        clear e h0 h1 h2 h3 hk
        go_enter Tryz.func106, Tryz.ntmps106
        go_wp2
        go_ret
        exact ⟨rfl, (Below.refl _ _).alloc (Nat.le_refl _) _⟩
      | true =>
        by_cases x1 : d % 2 = 0
        · have x1' : (d : Int) % 2 = 0 := by omega
          have e : chI d false false false false true false = 5 := by unfold chI; simp [*]
          rw [e]
          clear e h0 h1 h2 h3 hk
          go_enter Tryz.func106, Tryz.ntmps106
          go_wp2
          go_ret
          exact ⟨rfl, (Below.refl _ _).alloc (Nat.le_refl _) _⟩
        · have x1' : (d : Int) % 2 = 1 := by omega
          have e : chI d false false false false true false = 0 := by unfold chI; simp [*]
          rw [e]
          clear e h0 h1 h2 h3 hk
          go_enter Tryz.func106, Tryz.ntmps106
          go_wp2
          go_ret
          exact ⟨rfl, (Below.refl _ _).alloc (Nat.le_refl _) _⟩
    | true =>
      by_cases x2 : d / 2 % 2 = 0
      · have x2' : (d : Int) / 2 % 2 = 0 := by omega
        have e : chI d false false false true u3 false = 4 := by unfold chI; simp [*]
        rw [e]
        clear e h0 h1 h2 h3 hk
        go_enter Tryz.func106, Tryz.ntmps106
        go_wp2
        go_ret
        exact ⟨rfl, (Below.refl _ _).alloc (Nat.le_refl _) _⟩
      · have x2' : (d : Int) / 2 % 2 = 1 := by omega
        cases u3 with
        | false =>
          have e : chI d false false false true false false = 0 := by unfold chI; simp [*]
          rw [e]
          clear e h0 h1 h2 h3 hk
          go_enter Tryz.func106, Tryz.ntmps106
          go_wp2
          go_ret
          exact ⟨rfl, (Below.refl _ _).alloc (Nat.le_refl _) _⟩
        | true =>
          by_cases x1 : d % 2 = 0
          · have x1' : (d : Int) % 2 = 0 := by omega
            have e : chI d false false false true true false = 5 := by unfold chI; simp [*]
            rw [e]
            clear e h0 h1 h2 h3 hk
            go_enter Tryz.func106, Tryz.ntmps106
            go_wp2
            go_ret
            exact ⟨rfl, (Below.refl _ _).alloc (Nat.le_refl _) _⟩
          · have x1' : (d : Int) % 2 = 1 := by omega
            have e : chI d false false false true true false = 0 := by unfold chI; simp [*]
            rw [e]
            clear e h0 h1 h2 h3 hk
            go_enter Tryz.func106, Tryz.ntmps106
            go_wp2
            go_ret
            exact ⟨rfl, (Below.refl _ _).alloc (Nat.le_refl _) _⟩
  | true =>
    by_cases x4 : d / 4 = 0
    · have x4' : (d : Int) / 4 = 0 := by omega
      have e : chI d true false false u2 u3 false = 3 := by unfold chI; simp [*]
      rw [e]
      clear e h0 h1 h2 h3 hk
      go_enter Tryz.func106, Tryz.ntmps106
      go_wp2
      go_ret
      exact ⟨rfl, (Below.refl _ _).alloc (Nat.le_refl _) _⟩
    · have x4' : (d : Int) / 4 = 1 := by omega
      cases u2 with
      | false =>
        cases u3 with
        | false =>
          have e : chI d true false false false false false = 0 := by unfold chI; simp [*]
          rw [e]
          clear e h0 h1 h2 h3 hk
          go_enter Tryz.func106, Tryz.ntmps106
          go_wp2
          go_ret
          exact ⟨rfl, (Below.refl _ _).alloc (Nat.le_refl _) _⟩
        | true =>
          by_cases x1 : d % 2 = 0
          · have x1' : (d : Int) % 2 = 0 := by omega
            have e : chI d true false false false true false = 5 := by unfold chI; simp [*]
            rw [e]
            clear e h0 h1 h2 h3 hk
            go_enter Tryz.func106, Tryz.ntmps106
            go_wp2
            go_ret
            exact ⟨rfl, (Below.refl _ _).alloc (Nat.le_refl _) _⟩
          · have x1' : (d : Int) % 2 = 1 := by omega
            have e : chI d true false false false true false = 0 := by unfold chI; simp [*]
            rw [e]
            clear e h0 h1 h2 h3 hk
            go_enter Tryz.func106, Tryz.ntmps106
            go_wp2
            go_ret
            exact ⟨rfl, (Below.refl _ _).alloc (Nat.le_refl _) _⟩
      | true =>
        by_cases x2 : d / 2 % 2 = 0
        · have x2' : (d : Int) / 2 % 2 = 0 := by omega
          have e : chI d true false false true u3 false = 4 := by unfold chI; simp [*]
          rw [e]
          clear e h0 h1 h2 h3 hk
          go_enter Tryz.func106, Tryz.ntmps106
          go_wp2
          go_ret
          exact ⟨rfl, (Below.refl _ _).alloc (Nat.le_refl _) _⟩
        · have x2' : (d : Int) / 2 % 2 = 1 := by omega
          cases u3 with
          | false =>
            have e : chI d true false false true false false = 0 := by unfold chI; simp [*]
            rw [e]
            clear e h0 h1 h2 h3 hk
            go_enter Tryz.func106, Tryz.ntmps106
            go_wp2
            go_ret
            exact ⟨rfl, (Below.refl _ _).alloc (Nat.le_refl _) _⟩
          | true =>
            by_cases x1 : d % 2 = 0
            · have x1' : (d : Int) % 2 = 0 := by omega
              have e : chI d true false false true true false = 5 := by unfold chI; simp [*]
              rw [e]
              clear e h0 h1 h2 h3 hk
              go_enter Tryz.func106, Tryz.ntmps106
              go_wp2
              go_ret
              exact ⟨rfl, (Below.refl _ _).alloc (Nat.le_refl _) _⟩
            · have x1' : (d : Int) % 2 = 1 := by omega
              have e : chI d true false false true true false = 0 := by unfold chI; simp [*]
              rw [e]
              clear e h0 h1 h2 h3 hk
              go_enter Tryz.func106, Tryz.ntmps106
              go_wp2
              go_ret
              exact ⟨rfl, (Below.refl _ _).alloc (Nat.le_refl _) _⟩
end
end Go.Proofs.YtleofglnlfpoeaaGreat
namespace Go.Proofs.YtleofglnlfpoeaaGreat
set_option linter.unusedVariables false
/-- What is counted behind a tick. -/
def tkS (r c : Nat) : Nat := if c = 0 then r else c - 1
/-- What is counted behind n ticks, and how often it was over. -/
def tkC (r : Nat) : Nat → Nat → Nat
  | 0, c => c
  | n + 1, c => tkC r n (tkS r c)
def tkO (r : Nat) : Nat → Nat → Nat
  | 0, _ => 0
  | n + 1, c => (if c = 0 then 1 else 0) + tkO r n (tkS r c)
theorem tkC_add (r a b c : Nat) : tkC r (a + b) c = tkC r b (tkC r a c) := by
  induction a generalizing c with
  | zero => simp [tkC]
  | succ a ih => rw [Nat.add_right_comm]; simp only [tkC]; exact ih _
theorem tkO_add (r a b c : Nat) : tkO r (a + b) c = tkO r a c + tkO r b (tkC r a c) := by
  induction a generalizing c with
  | zero => simp [tkC, tkO]
  | succ a ih => rw [Nat.add_right_comm]; simp only [tkC, tkO]; rw [ih]; omega
theorem tkO_le (r n c : Nat) : tkO r n c ≤ n := by
  induction n generalizing c with
  | zero => simp [tkO]
  | succ n ih => simp only [tkO]; have := ih (tkS r c); split <;> omega
theorem tkS_le {r c m : Nat} (h : r ≤ m) (h' : c ≤ m) : tkS r c ≤ m := by unfold tkS; split <;> omega
theorem tkC_le {r n c m : Nat} (h : r ≤ m) (h' : c ≤ m) : tkC r n c ≤ m := by
  induction n generalizing c with
  | zero => simpa [tkC] using h'
  | succ n ih => simp only [tkC]; exact ih (tkS_le h h')
theorem tk_loop {r m c : Nat} (h : tkC r m c = c) (k : Nat) : tkC r (k * m) c = c ∧ tkO r (k * m) c = k * tkO r m c := by
  induction k with
  | zero => simp [tkC, tkO]
  | succ k ih =>
    rw [Nat.succ_mul, tkC_add, tkO_add, ih.1, ih.2, h]
    exact ⟨rfl, by rw [Nat.succ_mul]⟩
structure Tm where
  gone : Nat
  c : Nat
  r : Nat
  on : Bool
def Tm.ok (s : Tm) : Prop := s.gone < 3072 ∧ s.c ≤ 127 ∧ s.r ≤ 127
def Tm.new : Tm := ⟨0, 0, 0, false⟩
theorem Tm.new_ok : Tm.new.ok := ⟨by decide, by decide, by decide⟩
/-- It goes on by so many master clocks. -/
def Tm.goN (s : Tm) (n : Nat) : Tm := if s.on = true then ⟨(s.gone + n) % 3072, tkC s.r ((s.gone + n) / 3072) s.c, s.r, true⟩ else s
def Tm.overN (s : Tm) (n : Nat) : Nat := if s.on = true then tkO s.r ((s.gone + n) / 3072) s.c else 0
def Tm.wr (s : Tm) (reg b : Int) : Tm :=
  if reg = 0 then ⟨s.gone, s.c, (b % 128).toNat, s.on⟩
  else if reg = 1 then if b % 2 = 1 then if s.on = true then s else ⟨0, s.r, s.r, true⟩ else ⟨s.gone, s.c, s.r, false⟩
  else s
theorem Tm.go_ok {s : Tm} (h : s.ok) (n : Nat) : (s.goN n).ok := by
  obtain ⟨a, b, c⟩ := h
  unfold Tm.goN
  split
  · exact ⟨Nat.mod_lt _ (by omega), tkC_le c b, c⟩
  · exact ⟨a, b, c⟩
end Go.Proofs.YtleofglnlfpoeaaGreat
namespace Go.Proofs.YtleofglnlfpoeaaGreat
open Go.RowKit
set_option linter.unusedVariables false
set_option linter.unusedSimpArgs false
set_option maxRecDepth 100000
/-- The cells of a timer, laid at place o. -/
def tmPut (cs : Array Value) (o : Nat) (s : Tm) : Array Value := (((cs.setIfInBounds o (.int .i64 s.gone)).setIfInBounds (o + 1) (.int .u8 s.c)).setIfInBounds (o + 2) (.int .u8 s.r)).setIfInBounds (o + 3) (.bool s.on)
section
variable {cs : Array Value} {o : Nat} {s : Tm}
theorem tmPut_size : (tmPut cs o s).size = cs.size := by simp [tmPut]
theorem tmPut_at (i : Nat) (h : o + 4 ≤ cs.size) : (tmPut cs o s)[i]? = if i = o then some (.int .i64 s.gone) else if i = o + 1 then some (.int .u8 s.c) else if i = o + 2 then some (.int .u8 s.r) else if i = o + 3 then some (.bool s.on) else cs[i]? := by
  unfold tmPut
  simp only [Array.getElem?_setIfInBounds, Array.size_setIfInBounds]
  by_cases e0 : i = o
  · subst e0; simp; omega
  by_cases e1 : i = o + 1
  · subst e1; simp; omega
  by_cases e2 : i = o + 2
  · subst e2; simp; omega
  by_cases e3 : i = o + 3
  · subst e3; simp; omega
  rw [if_neg (by omega), if_neg (by omega), if_neg (by omega), if_neg (by omega), if_neg e0, if_neg e1, if_neg e2, if_neg e3]
theorem tmPut_gone (h : o + 4 ≤ cs.size) (x : Nat) : (tmPut cs o s).setIfInBounds o (.int .i64 x) = tmPut cs o ⟨x, s.c, s.r, s.on⟩ := by
  apply Array.ext_getElem?
  intro i
  rw [Array.getElem?_setIfInBounds, tmPut_at i h, tmPut_at i h, tmPut_size]
  by_cases e : o = i
  · subst e; simp; omega
  · have e' : ¬ i = o := fun x => e x.symm
    rw [if_neg e]
    simp only [if_neg e']
theorem tmPut_c (h : o + 4 ≤ cs.size) (x : Nat) : (tmPut cs o s).setIfInBounds (o + 1) (.int .u8 x) = tmPut cs o ⟨s.gone, x, s.r, s.on⟩ := by
  apply Array.ext_getElem?
  intro i
  rw [Array.getElem?_setIfInBounds, tmPut_at i h, tmPut_at i h, tmPut_size]
  by_cases e : o + 1 = i
  · subst e; simp; omega
  · have e' : ¬ i = o + 1 := fun x => e x.symm
    rw [if_neg e]
    simp only [if_neg e']
theorem tmPut_r (h : o + 4 ≤ cs.size) (x : Nat) : (tmPut cs o s).setIfInBounds (o + 2) (.int .u8 x) = tmPut cs o ⟨s.gone, s.c, x, s.on⟩ := by
  apply Array.ext_getElem?
  intro i
  rw [Array.getElem?_setIfInBounds, tmPut_at i h, tmPut_at i h, tmPut_size]
  by_cases e : o + 2 = i
  · subst e; simp; omega
  · have e' : ¬ i = o + 2 := fun x => e x.symm
    rw [if_neg e]
    simp only [if_neg e']
theorem tmPut_on (h : o + 4 ≤ cs.size) (x : Bool) : (tmPut cs o s).setIfInBounds (o + 3) (.bool x) = tmPut cs o ⟨s.gone, s.c, s.r, x⟩ := by
  apply Array.ext_getElem?
  intro i
  rw [Array.getElem?_setIfInBounds, tmPut_at i h, tmPut_at i h, tmPut_size]
  by_cases e : o + 3 = i
  · subst e; simp; omega
  · have e' : ¬ i = o + 3 := fun x => e x.symm
    rw [if_neg e]
    simp only [if_neg e']
end
/-- At place o of block g, whose other cells are those of cs, there is a timer. -/
def TM (w : World) (g : Nat) (T : TypeId) (cs : Array Value) (o : Nat) (s : Tm) : Prop := Blk w g T (tmPut cs o s) ∧ o + 4 ≤ cs.size ∧ s.ok
section
variable {w w' : World} {g : Nat} {T : TypeId} {cs : Array Value} {o : Nat} {s : Tm}
theorem TM.kp {L : List Nat} (h : TM w g T cs o s) (k : Kp L w w') (hL : g ∉ L) : TM w' g T cs o s := ⟨h.1.kp k hL, h.2⟩
theorem TM.keep {n : Nat} (h : TM w g T cs o s) (k : Below n w w') (hn : g < n) : TM w' g T cs o s := ⟨h.1.below k hn, h.2⟩
theorem TM.lt (h : TM w g T cs o s) : g < w.heap.size := h.1.lt
theorem TM.cells (h : TM w g T cs o s) : w.cell? ⟨g, o, none⟩ = some (.int .i64 s.gone) ∧ w.cell? ⟨g, o + 1, none⟩ = some (.int .u8 s.c) ∧ w.cell? ⟨g, o + 2, none⟩ = some (.int .u8 s.r) ∧ w.cell? ⟨g, o + 3, none⟩ = some (.bool s.on) := by
  obtain ⟨hb, hs, _⟩ := h
  refine ⟨?_, ?_, ?_, ?_⟩ <;> rw [hb.cell, tmPut_at _ hs] <;> simp
end
section
variable {w : World} {g : Nat} {T : TypeId} {cs : Array Value} {o : Nat} {s : Tm}
theorem tcounter_any (h : TM w g T cs o s) :
    Calls Tryz.prog 124 #[.pointer (some ⟨g, o, none⟩)] w fun e w' => e = .returned (.int .u8 s.c) ∧ w = w' := by
  obtain ⟨c0, c1, c2, c3⟩ := h.cells
  clear h
  go_enter Tryz.func124, Tryz.ntmps124
  go_wp2
  go_ret
  exact ⟨rfl, rfl⟩
theorem treload_any (h : TM w g T cs o s) :
    Calls Tryz.prog 123 #[.pointer (some ⟨g, o, none⟩)] w fun e w' => e = .returned (.int .u8 s.r) ∧ w = w' := by
  obtain ⟨c0, c1, c2, c3⟩ := h.cells
  clear h
  go_enter Tryz.func123, Tryz.ntmps123
  go_wp2
  go_ret
  exact ⟨rfl, rfl⟩
theorem ton_any (h : TM w g T cs o s) :
    Calls Tryz.prog 128 #[.pointer (some ⟨g, o, none⟩)] w fun e w' => e = .returned (.bool s.on) ∧ w = w' := by
  obtain ⟨c0, c1, c2, c3⟩ := h.cells
  clear h
  go_enter Tryz.func128, Tryz.ntmps128
  go_wp2
  go_ret
  exact ⟨rfl, rfl⟩
theorem tleft_any (h : TM w g T cs o s) :
    Calls Tryz.prog 127 #[.pointer (some ⟨g, o, none⟩)] w fun e w' => e = .returned (.int .i64 (3072 - s.gone)) ∧ w = w' := by
  obtain ⟨c0, c1, c2, c3⟩ := h.cells
  obtain ⟨_, _, k, _, _⟩ := h
  obtain ⟨gone, c, r, on⟩ := s
  dsimp only at *
  go_enter Tryz.func127, Tryz.ntmps127
  go_wp2
  go_ret
  exact ⟨rfl, rfl⟩
end
section
variable (w : World)
end
def NewTR (w : World) (e : Ending) (w' : World) : Prop :=
  e = .returned (.pointer (some ⟨w.heap.size, 0, none⟩)) ∧ TM w' w.heap.size 75 (Array.replicate 4 .nilFunc) 0 Tm.new ∧ Below w.heap.size w w'
theorem tnew_any (w : World) : Calls Tryz.prog 32 #[] w (NewTR w) := by
  go_enter Tryz.func32, Tryz.ntmps32
  go_wp2
  go_ret
  exact ⟨rfl, ⟨Blk.new w _ _, by decide, Tm.new_ok⟩, (Below.refl _ _).alloc (Nat.le_refl _) _⟩
end Go.Proofs.YtleofglnlfpoeaaGreat
