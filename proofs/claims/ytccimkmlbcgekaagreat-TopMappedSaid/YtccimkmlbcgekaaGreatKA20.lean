/-
  Texts of these proofs, one behind the other: Tim0, Tim1, MB.
-/
import Derived.Test.YtccimkmlbcgekaaGreatKA01
import Derived.Test.YtccimkmlbcgekaaGreatKA02
import Derived.Test.YtccimkmlbcgekaaGreatKA05
namespace Go.Proofs.YtccimkmlbcgekaaGreat
set_option linter.unusedVariables false
/-- What is counted behind a tick. -/
def tkS (r c : Nat) : Nat := if c = 0 then r else c - 1
/-- What is counted behind n ticks, and how often it was over. -/
def tkC (r : Nat) : Nat → Nat → Nat
  | 0, c => c
  | n + 1, c => tkC r n (tkS r c)
def tkO (r : Nat) : Nat → Nat → Nat
  | 0, _ => 0
  | n + 1, c => (if c = 0 then 1 else 0) + tkO r n (tkS r c)
theorem tkC_add (r a b c : Nat) : tkC r (a + b) c = tkC r b (tkC r a c) := by
  induction a generalizing c with
  | zero => simp [tkC]
  | succ a ih => rw [Nat.add_right_comm]; simp only [tkC]; exact ih _
theorem tkO_add (r a b c : Nat) : tkO r (a + b) c = tkO r a c + tkO r b (tkC r a c) := by
  induction a generalizing c with
  | zero => simp [tkC, tkO]
  | succ a ih => rw [Nat.add_right_comm]; simp only [tkC, tkO]; rw [ih]; omega
theorem tkO_le (r n c : Nat) : tkO r n c ≤ n := by
  induction n generalizing c with
  | zero => simp [tkO]
  | succ n ih => simp only [tkO]; have := ih (tkS r c); split <;> omega
theorem tkS_le {r c m : Nat} (h : r ≤ m) (h' : c ≤ m) : tkS r c ≤ m := by unfold tkS; split <;> omega
theorem tkC_le {r n c m : Nat} (h : r ≤ m) (h' : c ≤ m) : tkC r n c ≤ m := by
  induction n generalizing c with
  | zero => simpa [tkC] using h'
  | succ n ih => simp only [tkC]; exact ih (tkS_le h h')
theorem tk_loop {r m c : Nat} (h : tkC r m c = c) (k : Nat) : tkC r (k * m) c = c ∧ tkO r (k * m) c = k * tkO r m c := by
  induction k with
  | zero => simp [tkC, tkO]
  | succ k ih =>
    rw [Nat.succ_mul, tkC_add, tkO_add, ih.1, ih.2, h]
    exact ⟨rfl, by rw [Nat.succ_mul]⟩
theorem tk_down {r n c : Nat} (h : n ≤ c) : tkC r n c = c - n ∧ tkO r n c = 0 := by
  induction n generalizing c with
  | zero => simp [tkC, tkO]
  | succ n ih =>
    have e : tkS r c = c - 1 := by unfold tkS; rw [if_neg (by omega)]
    obtain ⟨a, b⟩ := ih (c := c - 1) (by omega)
    simp only [tkC, tkO, e]
    rw [a, b, if_neg (by omega)]
    omega
theorem tk_over (r c : Nat) : tkC r (c + 1) c = r ∧ tkO r (c + 1) c = 1 := by
  obtain ⟨a, b⟩ := tk_down (r := r) (Nat.le_refl c)
  rw [tkC_add, tkO_add, a, b]
  simp [tkC, tkO, tkS]
theorem tk_round {r c : Nat} (h : c ≤ r) : tkC r (r + 1) c = c ∧ tkO r (r + 1) c = 1 := by
  obtain ⟨a, b⟩ := tk_over r c
  obtain ⟨x, y⟩ := tk_down (r := r) (n := r - c) (c := r) (by omega)
  rw [show r + 1 = (c + 1) + (r - c) by omega, tkC_add, tkO_add, a, b, x, y]
  omega
/-- From where it begins again. -/
theorem tk_begun (r q : Nat) : tkC r q r = r - q % (r + 1) := by
  have e := Nat.div_add_mod' q (r + 1)
  have l := Nat.mod_lt q (by omega : 0 < r + 1)
  obtain ⟨a, b⟩ := tk_loop (tk_round (Nat.le_refl r)).1 (q / (r + 1))
  rw [← e, tkC_add, a, (tk_down (by omega)).1, e]
theorem tk_rounds (r c k : Nat) : tkO r (c + 1 + k * (r + 1)) c = k + 1 := by
  obtain ⟨a, b⟩ := tk_over r c
  obtain ⟨x, y⟩ := tk_loop (tk_round (Nat.le_refl r)).1 k
  rw [tkO_add, a, b, y, (tk_round (Nat.le_refl r)).2]
  omega
structure Tm where
  gone : Nat
  c : Nat
  r : Nat
  on : Bool
def Tm.ok (s : Tm) : Prop := s.gone < 3072 ∧ s.c ≤ 127 ∧ s.r ≤ 127
def Tm.new : Tm := ⟨0, 0, 0, false⟩
theorem Tm.new_ok : Tm.new.ok := ⟨by decide, by decide, by decide⟩
/-- It goes on by so many master clocks. -/
def Tm.goN (s : Tm) (n : Nat) : Tm := if s.on = true then ⟨(s.gone + n) % 3072, tkC s.r ((s.gone + n) / 3072) s.c, s.r, true⟩ else s
def Tm.overN (s : Tm) (n : Nat) : Nat := if s.on = true then tkO s.r ((s.gone + n) / 3072) s.c else 0
def Tm.wr (s : Tm) (reg b : Int) : Tm :=
  if reg = 0 then ⟨s.gone, s.c, (b % 128).toNat, s.on⟩
  else if reg = 1 then if b % 2 = 1 then if s.on = true then s else ⟨0, s.r, s.r, true⟩ else ⟨s.gone, s.c, s.r, false⟩
  else s
theorem Tm.go_ok {s : Tm} (h : s.ok) (n : Nat) : (s.goN n).ok := by
  obtain ⟨a, b, c⟩ := h
  unfold Tm.goN
  split
  · exact ⟨Nat.mod_lt _ (by omega), tkC_le c b, c⟩
  · exact ⟨a, b, c⟩
theorem Tm.wr_ok {s : Tm} (h : s.ok) (reg b : Int) : (s.wr reg b).ok := by
  obtain ⟨a1, a2, a3⟩ := h
  unfold Tm.wr
  repeat' split
  all_goals (refine ⟨?_, ?_, ?_⟩ <;> (try dsimp only) <;> omega)
theorem Tm.over_le {s : Tm} (h : s.ok) (n : Nat) : s.overN n ≤ n := by
  obtain ⟨a, _, _⟩ := h
  unfold Tm.overN
  split
  · exact Nat.le_trans (tkO_le _ _ _) (by omega)
  · omega
/-- Gone on in parts it is as gone on at once. -/
theorem Tm.go_add {s : Tm} (h : s.ok) (a b : Nat) : s.goN (a + b) = (s.goN a).goN b ∧ s.overN (a + b) = s.overN a + (s.goN a).overN b := by
  obtain ⟨g, c, r, on⟩ := s
  cases on with
  | false => simp [Tm.goN, Tm.overN]
  | true =>
    have e1 : (g + (a + b)) % 3072 = ((g + a) % 3072 + b) % 3072 := by omega
    have e2 : (g + (a + b)) / 3072 = (g + a) / 3072 + ((g + a) % 3072 + b) / 3072 := by omega
    simp only [Tm.goN, Tm.overN, if_true]
    rw [e1, e2, tkC_add, tkO_add]
    exact ⟨rfl, rfl⟩
end Go.Proofs.YtccimkmlbcgekaaGreat
namespace Go.Proofs.YtccimkmlbcgekaaGreat
open Go.RowKit
set_option linter.unusedVariables false
set_option linter.unusedSimpArgs false
set_option maxRecDepth 100000
/-- The cells of a timer, laid at place o. -/
def tmPut (cs : Array Value) (o : Nat) (s : Tm) : Array Value := (((cs.setIfInBounds o (.int .i64 s.gone)).setIfInBounds (o + 1) (.int .u8 s.c)).setIfInBounds (o + 2) (.int .u8 s.r)).setIfInBounds (o + 3) (.bool s.on)
section
variable {cs : Array Value} {o : Nat} {s : Tm}
theorem tmPut_size : (tmPut cs o s).size = cs.size := by simp [tmPut]
theorem tmPut_at (i : Nat) (h : o + 4 ≤ cs.size) : (tmPut cs o s)[i]? = if i = o then some (.int .i64 s.gone) else if i = o + 1 then some (.int .u8 s.c) else if i = o + 2 then some (.int .u8 s.r) else if i = o + 3 then some (.bool s.on) else cs[i]? := by
  unfold tmPut
  simp only [Array.getElem?_setIfInBounds, Array.size_setIfInBounds]
  by_cases e0 : i = o
  · subst e0; simp; omega
  by_cases e1 : i = o + 1
  · subst e1; simp; omega
  by_cases e2 : i = o + 2
  · subst e2; simp; omega
  by_cases e3 : i = o + 3
  · subst e3; simp; omega
  rw [if_neg (by omega), if_neg (by omega), if_neg (by omega), if_neg (by omega), if_neg e0, if_neg e1, if_neg e2, if_neg e3]
theorem tmPut_put (h : o + 4 ≤ cs.size) (s' : Tm) : tmPut (tmPut cs o s) o s' = tmPut cs o s' := by
  apply Array.ext_getElem?
  intro i
  rw [tmPut_at i (by rw [tmPut_size]; exact h), tmPut_at i h, tmPut_at i h]
  split <;> (try rfl)
  split <;> (try rfl)
  split <;> (try rfl)
  split <;> rfl
theorem tmPut_gone (h : o + 4 ≤ cs.size) (x : Nat) : (tmPut cs o s).setIfInBounds o (.int .i64 x) = tmPut cs o ⟨x, s.c, s.r, s.on⟩ := by
  apply Array.ext_getElem?
  intro i
  rw [Array.getElem?_setIfInBounds, tmPut_at i h, tmPut_at i h, tmPut_size]
  by_cases e : o = i
  · subst e; simp; omega
  · have e' : ¬ i = o := fun x => e x.symm
    rw [if_neg e]
    simp only [if_neg e']
theorem tmPut_c (h : o + 4 ≤ cs.size) (x : Nat) : (tmPut cs o s).setIfInBounds (o + 1) (.int .u8 x) = tmPut cs o ⟨s.gone, x, s.r, s.on⟩ := by
  apply Array.ext_getElem?
  intro i
  rw [Array.getElem?_setIfInBounds, tmPut_at i h, tmPut_at i h, tmPut_size]
  by_cases e : o + 1 = i
  · subst e; simp; omega
  · have e' : ¬ i = o + 1 := fun x => e x.symm
    rw [if_neg e]
    simp only [if_neg e']
theorem tmPut_r (h : o + 4 ≤ cs.size) (x : Nat) : (tmPut cs o s).setIfInBounds (o + 2) (.int .u8 x) = tmPut cs o ⟨s.gone, s.c, x, s.on⟩ := by
  apply Array.ext_getElem?
  intro i
  rw [Array.getElem?_setIfInBounds, tmPut_at i h, tmPut_at i h, tmPut_size]
  by_cases e : o + 2 = i
  · subst e; simp; omega
  · have e' : ¬ i = o + 2 := fun x => e x.symm
    rw [if_neg e]
    simp only [if_neg e']
theorem tmPut_on (h : o + 4 ≤ cs.size) (x : Bool) : (tmPut cs o s).setIfInBounds (o + 3) (.bool x) = tmPut cs o ⟨s.gone, s.c, s.r, x⟩ := by
  apply Array.ext_getElem?
  intro i
  rw [Array.getElem?_setIfInBounds, tmPut_at i h, tmPut_at i h, tmPut_size]
  by_cases e : o + 3 = i
  · subst e; simp; omega
  · have e' : ¬ i = o + 3 := fun x => e x.symm
    rw [if_neg e]
    simp only [if_neg e']
end
/-- At place o of block g, whose other cells are those of cs, there is a timer. -/
def TM (w : World) (g : Nat) (T : TypeId) (cs : Array Value) (o : Nat) (s : Tm) : Prop := Blk w g T (tmPut cs o s) ∧ o + 4 ≤ cs.size ∧ s.ok
section
variable {w w' : World} {g : Nat} {T : TypeId} {cs : Array Value} {o : Nat} {s : Tm}
theorem TM.kp {L : List Nat} (h : TM w g T cs o s) (k : Kp L w w') (hL : g ∉ L) : TM w' g T cs o s := ⟨h.1.kp k hL, h.2⟩
theorem TM.keep {n : Nat} (h : TM w g T cs o s) (k : Below n w w') (hn : g < n) : TM w' g T cs o s := ⟨h.1.below k hn, h.2⟩
theorem TM.lt (h : TM w g T cs o s) : g < w.heap.size := h.1.lt
theorem TM.cells (h : TM w g T cs o s) : w.cell? ⟨g, o, none⟩ = some (.int .i64 s.gone) ∧ w.cell? ⟨g, o + 1, none⟩ = some (.int .u8 s.c) ∧ w.cell? ⟨g, o + 2, none⟩ = some (.int .u8 s.r) ∧ w.cell? ⟨g, o + 3, none⟩ = some (.bool s.on) := by
  obtain ⟨hb, hs, _⟩ := h
  refine ⟨?_, ?_, ?_, ?_⟩ <;> rw [hb.cell, tmPut_at _ hs] <;> simp
end
section
variable {w : World} {g : Nat} {T : TypeId} {cs : Array Value} {o : Nat} {s : Tm}
theorem tcounter_any (h : TM w g T cs o s) :
    Calls Tryz.prog 137 #[.pointer (some ⟨g, o, none⟩)] w fun e w' => e = .returned (.int .u8 s.c) ∧ w = w' := by
  obtain ⟨c0, c1, c2, c3⟩ := h.cells
  clear h
  go_enter Tryz.func137, Tryz.ntmps137
  go_wp2
  go_ret
  exact ⟨rfl, rfl⟩
theorem treload_any (h : TM w g T cs o s) :
    Calls Tryz.prog 136 #[.pointer (some ⟨g, o, none⟩)] w fun e w' => e = .returned (.int .u8 s.r) ∧ w = w' := by
  obtain ⟨c0, c1, c2, c3⟩ := h.cells
  clear h
  go_enter Tryz.func136, Tryz.ntmps136
  go_wp2
  go_ret
  exact ⟨rfl, rfl⟩
theorem ton_any (h : TM w g T cs o s) :
    Calls Tryz.prog 141 #[.pointer (some ⟨g, o, none⟩)] w fun e w' => e = .returned (.bool s.on) ∧ w = w' := by
  obtain ⟨c0, c1, c2, c3⟩ := h.cells
  clear h
  go_enter Tryz.func141, Tryz.ntmps141
  go_wp2
  go_ret
  exact ⟨rfl, rfl⟩
theorem tleft_any (h : TM w g T cs o s) :
    Calls Tryz.prog 140 #[.pointer (some ⟨g, o, none⟩)] w fun e w' => e = .returned (.int .i64 (3072 - s.gone)) ∧ w = w' := by
  obtain ⟨c0, c1, c2, c3⟩ := h.cells
  obtain ⟨_, _, k, _, _⟩ := h
  obtain ⟨gone, c, r, on⟩ := s
  dsimp only at *
  go_enter Tryz.func140, Tryz.ntmps140
  go_wp2
  go_ret
  exact ⟨rfl, rfl⟩
end
section
variable (w : World)
theorem tcounter_nil : Calls Tryz.prog 137 #[.pointer none] w fun e w' => e = .returned (.int .u8 0) ∧ w = w' := by
  go_enter Tryz.func137, Tryz.ntmps137
  go_wp2
  go_ret
  exact ⟨rfl, rfl⟩
theorem treload_nil : Calls Tryz.prog 136 #[.pointer none] w fun e w' => e = .returned (.int .u8 0) ∧ w = w' := by
  go_enter Tryz.func136, Tryz.ntmps136
  go_wp2
  go_ret
  exact ⟨rfl, rfl⟩
theorem ton_nil : Calls Tryz.prog 141 #[.pointer none] w fun e w' => e = .returned (.bool false) ∧ w = w' := by
  go_enter Tryz.func141, Tryz.ntmps141
  go_wp2
  go_ret
  exact ⟨rfl, rfl⟩
theorem tleft_nil : Calls Tryz.prog 140 #[.pointer none] w fun e w' => e = .returned (.int .i64 0) ∧ w = w' := by
  go_enter Tryz.func140, Tryz.ntmps140
  go_wp2
  go_ret
  exact ⟨rfl, rfl⟩
theorem tclone_nil : Calls Tryz.prog 111 #[.pointer none] w fun e w' => e = .returned (.pointer none) ∧ w = w' := by
  go_enter Tryz.func111, Tryz.ntmps111
  go_wp2
  go_ret
  exact ⟨rfl, rfl⟩
theorem twrite_nil (r b : Int) : Calls Tryz.prog 131 #[.pointer none, .int .i64 r, .int .u8 b] w fun e w' => e = .returned (.tuple #[]) ∧ w = w' := by
  go_enter Tryz.func131, Tryz.ntmps131
  go_wp2
  first | go_end0 | refine bodyPost_ret (results_none rfl _ _ _) rfl ?_
  exact ⟨rfl, rfl⟩
theorem tgo_nil (n : Int) : Calls Tryz.prog 165 #[.pointer none, .int .i64 n] w fun e w' => e = .returned (.int .i64 0) ∧ w = w' := by
  go_enter Tryz.func165, Tryz.ntmps165
  go_wp2_with (go_at_call 141; refine (ton_nil _).mono ?_; rintro e w' ⟨rfl, rfl⟩)
  go_ret
  exact ⟨rfl, rfl⟩
end
def NewTR (w : World) (e : Ending) (w' : World) : Prop :=
  e = .returned (.pointer (some ⟨w.heap.size, 0, none⟩)) ∧ TM w' w.heap.size 88 (Array.replicate 4 .nilFunc) 0 Tm.new ∧ Below w.heap.size w w'
theorem tnew_any (w : World) : Calls Tryz.prog 41 #[] w (NewTR w) := by
  go_enter Tryz.func41, Tryz.ntmps41
  go_wp2
  go_ret
  exact ⟨rfl, ⟨Blk.new w _ _, by decide, Tm.new_ok⟩, (Below.refl _ _).alloc (Nat.le_refl _) _⟩
end Go.Proofs.YtccimkmlbcgekaaGreat
namespace Go.Proofs.YtccimkmlbcgekaaGreat
open Go.RowKit
set_option linter.unusedVariables false
set_option maxRecDepth 100000
theorem bit0_fin : ∀ b : Fin 256, bitB (b.val : Int) 0 = decide ((b.val : Int) % 2 = 1) := by decide +kernel
theorem bit1_fin : ∀ b : Fin 256, bitB (b.val : Int) 1 = decide ((b.val : Int) / 2 % 2 = 1) := by decide +kernel
theorem bit0_eq {b : Int} (h0 : 0 ≤ b) (h1 : b ≤ 255) : bitB b 0 = decide (b % 2 = 1) := by
  have := bit0_fin ⟨b.toNat, by omega⟩
  rwa [show ((⟨b.toNat, by omega⟩ : Fin 256).val : Int) = b by simp; omega] at this
theorem bit1_eq {b : Int} (h0 : 0 ≤ b) (h1 : b ≤ 255) : bitB b 1 = decide (b / 2 % 2 = 1) := by
  have := bit1_fin ⟨b.toNat, by omega⟩
  rwa [show ((⟨b.toNat, by omega⟩ : Fin 256).val : Int) = b by simp; omega] at this
end Go.Proofs.YtccimkmlbcgekaaGreat
