/-
  A port in memory, by itself or within something else: Pad, Select, Taken, Write, Read, New, Clone; all of them of nil.
-/
import Derived.Test.YtbdmpgpdnnjmpaaFeed9
import Derived.Test.YtbdmpgpdnnjmpaaMB
import Derived.IntWalk
namespace Go.Proofs.Ytbdmpgpdnnjmpaa
open Go.RowKit
set_option linter.unusedVariables false
set_option linter.unusedSimpArgs false
set_option maxRecDepth 100000
/-- Both lines, and which pad is asked. -/
structure Pt where
  l : Nat
  p : Nat
def Pt.ok (s : Pt) : Prop := s.l ≤ 3 ∧ s.p ≤ 5
def Pt.wr (s : Pt) (b : Int) : Pt :=
  if 2 ≤ (b % 4).toNat then ⟨(b % 4).toNat, 0⟩ else if (b % 4).toNat = 1 ∧ s.l % 2 = 0 then ⟨(b % 4).toNat, min (s.p + 1) 5⟩ else ⟨(b % 4).toNat, s.p⟩
theorem Pt.wr_ok {s : Pt} (h : s.ok) (b : Int) : (s.wr b).ok := by
  obtain ⟨a1, a2⟩ := h
  unfold Pt.wr
  repeat' split
  all_goals (refine ⟨?_, ?_⟩ <;> (try dsimp only) <;> omega)
/-- Does a read take a byte? -/
def Pt.takes (s : Pt) : Prop := ¬ (s.p = 5 ∨ 2 ≤ s.l)
instance (s : Pt) : Decidable s.takes := by unfold Pt.takes; infer_instance
/-- What is read, b being the next byte. -/
def Pt.val (s : Pt) (b : Int) : Int := if s.takes then 176 + (if s.l % 2 = 1 then b / 16 else b % 16) else 176
theorem lb0 {l : Nat} (h : l ≤ 3) : bitB (l : Int) 0 = decide (l % 2 = 1) := by
  rw [bit0_eq (by omega) (by omega)]
  congr 1
  apply propext
  omega
theorem lb1 {l : Nat} (h : l ≤ 3) : bitB (l : Int) 1 = decide (2 ≤ l) := by
  rw [bit1_eq (by omega) (by omega)]
  congr 1
  apply propext
  omega
theorem bit_v {b n : Int} {x : Bool} {w : World} (e : bitB b n = x) : Calls Try.prog 33 #[.int .u8 b, .int .i64 n] w fun e w' => e = .returned (.bool x) ∧ w = w' := e ▸ bit_any b n w
/-- What of a port isn't its feed, laid at place o. -/
def ptBase (cs : Array Value) (o : Nat) (s : Pt) : Array Value := (cs.setIfInBounds (o + 2) (.int .u8 s.l)).setIfInBounds (o + 3) (.int .i64 s.p)
section
variable {cs : Array Value} {o : Nat} {s : Pt}
theorem ptBase_size : (ptBase cs o s).size = cs.size := by simp [ptBase]
theorem ptBase_at (i : Nat) (h : o + 4 ≤ cs.size) : (ptBase cs o s)[i]? = if i = o + 2 then some (.int .u8 s.l) else if i = o + 3 then some (.int .i64 s.p) else cs[i]? := by
  unfold ptBase
  simp only [Array.getElem?_setIfInBounds, Array.size_setIfInBounds]
  by_cases e0 : i = o + 2
  · subst e0; simp; omega
  by_cases e1 : i = o + 3
  · subst e1; simp; omega
  rw [if_neg (by omega), if_neg (by omega), if_neg e0, if_neg e1]
theorem ptBase_l (h : o + 4 ≤ cs.size) (x : Nat) : (ptBase cs o s).setIfInBounds (o + 2) (.int .u8 x) = ptBase cs o ⟨x, s.p⟩ := by
  apply Array.ext_getElem?
  intro i
  rw [Array.getElem?_setIfInBounds, ptBase_at i h, ptBase_at i h, ptBase_size]
  by_cases e : o + 2 = i
  · subst e; simp; omega
  · have e' : ¬ i = o + 2 := fun x => e x.symm
    rw [if_neg e]
    simp only [if_neg e']
theorem ptBase_p (h : o + 4 ≤ cs.size) (x : Nat) : (ptBase cs o s).setIfInBounds (o + 3) (.int .i64 x) = ptBase cs o ⟨s.l, x⟩ := by
  apply Array.ext_getElem?
  intro i
  rw [Array.getElem?_setIfInBounds, ptBase_at i h, ptBase_at i h, ptBase_size]
  by_cases e : o + 3 = i
  · subst e; simp; omega
  · have e' : ¬ i = o + 3 := fun x => e x.symm
    rw [if_neg e]
    simp only [if_neg e']
end
/-- At place o of block g there is a port, whose feed has the bytes of z, n of them, q of which were asked for. -/
def PT (w : World) (g : Nat) (T : TypeId) (cs : Array Value) (o cb n : Nat) (z : Nat → Int) (q : Nat) (s : Pt) : Prop :=
  FP w g T (ptBase cs o s) o cb (n - q) (fun i => z (q + i)) q ∧ o + 4 ≤ cs.size ∧ s.ok
section
variable {w w' : World} {g : Nat} {T : TypeId} {cs : Array Value} {o cb n : Nat} {z : Nat → Int} {q : Nat} {s : Pt}
theorem PT.lt (h : PT w g T cs o cb n z q s) : g < w.heap.size := h.1.lt
theorem PT.ltc (h : PT w g T cs o cb n z q s) : cb < w.heap.size := h.1.ltc
theorem PT.ne (h : PT w g T cs o cb n z q s) : g ≠ cb := h.1.ne
theorem PT.cells (h : PT w g T cs o cb n z q s) : w.cell? ⟨g, o, none⟩ = some (giveV cb) ∧ w.cell? ⟨g, o + 1, none⟩ = some (.int .i64 q) ∧ w.cell? ⟨g, o + 2, none⟩ = some (.int .u8 s.l) ∧ w.cell? ⟨g, o + 3, none⟩ = some (.int .i64 s.p) := by
  obtain ⟨hf, hs, _⟩ := h
  obtain ⟨h0, h1⟩ := hf.cells
  refine ⟨h0, h1, ?_, ?_⟩ <;> rw [hf.1.cell, fdPut_at _ hf.2.1.1, if_neg (by omega), if_neg (by omega), ptBase_at _ hs] <;> simp
theorem PT.kp {L : List Nat} (h : PT w g T cs o cb n z q s) (k : Kp L w w') (hL : ∀ x ∈ L, ∃ t cs, Blk w x t cs ∧ 5 ≠ t) (h1 : g ∉ L) (h2 : cb ∉ L) : PT w' g T cs o cb n z q s := ⟨h.1.kp k hL h1 h2, h.2⟩
theorem PT.keep (h : PT w g T cs o cb n z q s) (k : Below w.heap.size w w') : PT w' g T cs o cb n z q s := ⟨h.1.keep k, h.2⟩
theorem PT.put_l (h : PT w g T cs o cb n z q s) (x : Nat) (hx : x ≤ 3) : PT (w.setCell ⟨g, o + 2, none⟩ (.int .u8 x)) g T cs o cb n z q ⟨x, s.p⟩ ∧ Kp [g] w (w.setCell ⟨g, o + 2, none⟩ (.int .u8 x)) := by
  obtain ⟨hf, hs, h1, h2⟩ := h
  obtain ⟨a, b⟩ := hf.put (o + 2) ⟨by omega, by omega⟩ (.int .u8 x)
  rw [ptBase_l hs] at a
  exact ⟨⟨a, hs, hx, h2⟩, b⟩
theorem PT.put_p (h : PT w g T cs o cb n z q s) (x : Nat) (hx : x ≤ 5) : PT (w.setCell ⟨g, o + 3, none⟩ (.int .i64 x)) g T cs o cb n z q ⟨s.l, x⟩ ∧ Kp [g] w (w.setCell ⟨g, o + 3, none⟩ (.int .i64 x)) := by
  obtain ⟨hf, hs, h1, h2⟩ := h
  obtain ⟨a, b⟩ := hf.put (o + 3) ⟨by omega, by omega⟩ (.int .i64 x)
  rw [ptBase_p hs] at a
  exact ⟨⟨a, hs, h1, hx⟩, b⟩
end
section
variable {w : World} {g : Nat} {T : TypeId} {cs : Array Value} {o cb n : Nat} {z : Nat → Int} {q : Nat} {s : Pt}
theorem ppad_any (h : PT w g T cs o cb n z q s) :
    Calls Try.prog 29 #[.pointer (some ⟨g, o, none⟩)] w fun e w' => e = .returned (.int .i64 s.p) ∧ w = w' := by
  obtain ⟨c0, c1, c2, c3⟩ := h.cells
  clear h
  go_enter Try.func29, Try.ntmps29
  go_wp2
  go_ret
  exact ⟨rfl, rfl⟩
theorem pselect_any (h : PT w g T cs o cb n z q s) :
    Calls Try.prog 41 #[.pointer (some ⟨g, o, none⟩)] w fun e w' => e = .returned (.int .u8 s.l) ∧ w = w' := by
  obtain ⟨c0, c1, c2, c3⟩ := h.cells
  clear h
  go_enter Try.func41, Try.ntmps41
  go_wp2
  go_ret
  exact ⟨rfl, rfl⟩
theorem ptaken_any (h : PT w g T cs o cb n z q s) :
    Calls Try.prog 30 #[.pointer (some ⟨g, o, none⟩)] w fun e w' => e = .returned (.int .i64 q) ∧ w = w' := by
  have H := Lib.hid h.1
  clear h
  go_enter Try.func30, Try.ntmps30
  go_wp2_with fail
  refine (fptaken_any H.out).mono ?_
  rintro e w' ⟨rfl, rfl⟩
  go_wp2_with fail
  go_ret
  exact ⟨rfl, rfl⟩
/-- What a call on a port leaves. -/
def PtR (v : Value) (g : Nat) (T : TypeId) (cs : Array Value) (o cb n : Nat) (z : Nat → Int) (q : Nat) (s : Pt) (L : List Nat) (w : World) (e : Ending) (w' : World) : Prop := e = .returned v ∧ PT w' g T cs o cb n z q s ∧ Kp L w w'
theorem pwrite_any (h : PT w g T cs o cb n z q s) (b : Int) (b0 : 0 ≤ b) (b1 : b ≤ 255) :
    Calls Try.prog 31 #[.pointer (some ⟨g, o, none⟩), .int .u8 b] w (PtR (.tuple #[]) g T cs o cb n z q (s.wr b) [g] w) := by
  obtain ⟨c0, c1, c2, c3⟩ := h.cells
  have f2 := h.1.1.frozen (o + 2)
  have f3 := h.1.1.frozen (o + 3)
  obtain ⟨k1, k2⟩ := h.2.2
  have i1 : ((b % 4).toNat : Int) = b % 4 := by omega
  have B0 := Lib.hid (bit0_eq b0 b1)
  have B1 := Lib.hid (bit1_eq b0 b1)
  have L0 := Lib.hid (lb0 k1)
  have H := Lib.hid h
  clear h c0 c1
  by_cases h1 : b / 2 % 2 = 1
  · by_cases h0 : b % 2 = 1
    · by_cases hl : s.l % 2 = 1
      · have hw : s.wr b = ⟨(b % 4).toNat, 0⟩ := by
          unfold Pt.wr
          rw [if_pos (by omega)]
        rw [hw]
        clear hw
        go_enter Try.func31, Try.ntmps31
        go_wp2_with fail
        refine (bit_v (B0.out.trans (decide_eq_true h0))).mono ?_
        rintro e w' ⟨rfl, rfl⟩
        go_wp2_with fail
        refine (bit_v (L0.out.trans (decide_eq_true hl))).mono ?_
        rintro e w' ⟨rfl, rfl⟩
        go_wp2_with fail
        refine (bit_v (B1.out.trans (decide_eq_true h1))).mono ?_
        rintro e w' ⟨rfl, rfl⟩
        go_wp2_with fail
        first | go_end0 | refine bodyPost_ret (results_none rfl _ _ _) rfl ?_
        obtain ⟨p1, p2⟩ := H.out.put_l (b % 4).toNat (by omega)
        rw [i1] at p1 p2
        obtain ⟨q1, q2⟩ := p1.put_p 0 (by omega)
        exact ⟨rfl, q1, p2.trans q2 (by simp)⟩
      · have hw : s.wr b = ⟨(b % 4).toNat, 0⟩ := by
          unfold Pt.wr
          rw [if_pos (by omega)]
        rw [hw]
        clear hw
        go_enter Try.func31, Try.ntmps31
        go_wp2_with fail
        refine (bit_v (B0.out.trans (decide_eq_true h0))).mono ?_
        rintro e w' ⟨rfl, rfl⟩
        go_wp2_with fail
        refine (bit_v (L0.out.trans (decide_eq_false hl))).mono ?_
        rintro e w' ⟨rfl, rfl⟩
        go_wp2_with fail
        refine (bit_v (B1.out.trans (decide_eq_true h1))).mono ?_
        rintro e w' ⟨rfl, rfl⟩
        go_wp2_with fail
        first | go_end0 | refine bodyPost_ret (results_none rfl _ _ _) rfl ?_
        obtain ⟨p1, p2⟩ := H.out.put_l (b % 4).toNat (by omega)
        rw [i1] at p1 p2
        obtain ⟨q1, q2⟩ := p1.put_p 0 (by omega)
        exact ⟨rfl, q1, p2.trans q2 (by simp)⟩
    · have hw : s.wr b = ⟨(b % 4).toNat, 0⟩ := by
        unfold Pt.wr
        rw [if_pos (by omega)]
      rw [hw]
      clear hw
      go_enter Try.func31, Try.ntmps31
      go_wp2_with fail
      refine (bit_v (B0.out.trans (decide_eq_false h0))).mono ?_
      rintro e w' ⟨rfl, rfl⟩
      go_wp2_with fail
      refine (bit_v (B1.out.trans (decide_eq_true h1))).mono ?_
      rintro e w' ⟨rfl, rfl⟩
      go_wp2_with fail
      first | go_end0 | refine bodyPost_ret (results_none rfl _ _ _) rfl ?_
      obtain ⟨p1, p2⟩ := H.out.put_l (b % 4).toNat (by omega)
      rw [i1] at p1 p2
      obtain ⟨q1, q2⟩ := p1.put_p 0 (by omega)
      exact ⟨rfl, q1, p2.trans q2 (by simp)⟩
  · by_cases h0 : b % 2 = 1
    · by_cases hl : s.l % 2 = 1
      · have hw : s.wr b = ⟨(b % 4).toNat, s.p⟩ := by
          unfold Pt.wr
          rw [if_neg (by omega), if_neg (by omega)]
        rw [hw]
        clear hw
        go_enter Try.func31, Try.ntmps31
        go_wp2_with fail
        refine (bit_v (B0.out.trans (decide_eq_true h0))).mono ?_
        rintro e w' ⟨rfl, rfl⟩
        go_wp2_with fail
        refine (bit_v (L0.out.trans (decide_eq_true hl))).mono ?_
        rintro e w' ⟨rfl, rfl⟩
        go_wp2_with fail
        refine (bit_v (B1.out.trans (decide_eq_false h1))).mono ?_
        rintro e w' ⟨rfl, rfl⟩
        go_wp2_with fail
        first | go_end0 | refine bodyPost_ret (results_none rfl _ _ _) rfl ?_
        obtain ⟨p1, p2⟩ := H.out.put_l (b % 4).toNat (by omega)
        rw [i1] at p1 p2
        exact ⟨rfl, p1, p2⟩
      · have hw : s.wr b = ⟨(b % 4).toNat, min (s.p + 1) 5⟩ := by
          unfold Pt.wr
          rw [if_neg (by omega), if_pos (by omega)]
        rw [hw]
        clear hw
        obtain ⟨x, hx⟩ : ∃ x, min (s.p + 1) 5 = x := ⟨_, rfl⟩
        have eX : (if (5 : Int) < (s.p : Int) + 1 then 5 else (s.p : Int) + 1) = (x : Int) := by split <;> omega
        have hx5 : x ≤ 5 := by omega
        rw [hx]
        clear hx
        go_enter Try.func31, Try.ntmps31
        go_wp2_with fail
        refine (bit_v (B0.out.trans (decide_eq_true h0))).mono ?_
        rintro e w' ⟨rfl, rfl⟩
        go_wp2_with fail
        refine (bit_v (L0.out.trans (decide_eq_false hl))).mono ?_
        rintro e w' ⟨rfl, rfl⟩
        go_wp2_with fail
        refine (bit_v (B1.out.trans (decide_eq_false h1))).mono ?_
        rintro e w' ⟨rfl, rfl⟩
        go_wp2_with fail
        first | go_end0 | refine bodyPost_ret (results_none rfl _ _ _) rfl ?_
        obtain ⟨p1, p2⟩ := H.out.put_l (b % 4).toNat (by omega)
        rw [i1] at p1 p2
        obtain ⟨q1, q2⟩ := p1.put_p x hx5
        exact ⟨rfl, q1, p2.trans q2 (by simp)⟩
    · have hw : s.wr b = ⟨(b % 4).toNat, s.p⟩ := by
        unfold Pt.wr
        rw [if_neg (by omega), if_neg (by omega)]
      rw [hw]
      clear hw
      go_enter Try.func31, Try.ntmps31
      go_wp2_with fail
      refine (bit_v (B0.out.trans (decide_eq_false h0))).mono ?_
      rintro e w' ⟨rfl, rfl⟩
      go_wp2_with fail
      refine (bit_v (B1.out.trans (decide_eq_false h1))).mono ?_
      rintro e w' ⟨rfl, rfl⟩
      go_wp2_with fail
      first | go_end0 | refine bodyPost_ret (results_none rfl _ _ _) rfl ?_
      obtain ⟨p1, p2⟩ := H.out.put_l (b % 4).toNat (by omega)
      rw [i1] at p1 p2
      exact ⟨rfl, p1, p2⟩
/-- A half of the next byte. -/
theorem phigh_any (h : PT w g T cs o cb n z q s) (hq : q ≤ 1000000000) :
    Calls Try.prog 55 #[.pointer (some ⟨g, o, none⟩)] w (PtR (.int .u8 (peekI (n - q) (fun i => z (q + i)) 0 / 16)) g T cs o cb n z (q + 1) s [g, cb] w) := by
  obtain ⟨b0, b1⟩ := h.1.byte 0
  obtain ⟨b, hb⟩ : ∃ b, peekI (n - q) (fun i => z (q + i)) 0 = b := ⟨_, rfl⟩
  rw [hb] at b0 b1 ⊢
  have HB := Lib.hid hb
  have H := Lib.hid h
  clear h hb
  go_enter Try.func55, Try.ntmps55
  go_wp2_with fail
  refine (fpnext_any H.out.1 (by omega) (by omega)).mono ?_
  rw [HB.out]
  rintro e w1 ⟨rfl, q1, q2⟩
  have Q1 : Hid (PT w1 g T cs o cb n z (q + 1) s) := Lib.hid ⟨q1.congr (by omega) (fun i _ => by rw [Nat.add_assoc]) (by omega), H.out.2⟩
  clear q1
  go_wp2_with fail
  go_ret
  exact ⟨rfl, Q1.out, q2⟩
theorem plow_any (h : PT w g T cs o cb n z q s) (hq : q ≤ 1000000000) :
    Calls Try.prog 56 #[.pointer (some ⟨g, o, none⟩)] w (PtR (.int .u8 (peekI (n - q) (fun i => z (q + i)) 0 % 16)) g T cs o cb n z (q + 1) s [g, cb] w) := by
  obtain ⟨b0, b1⟩ := h.1.byte 0
  obtain ⟨b, hb⟩ : ∃ b, peekI (n - q) (fun i => z (q + i)) 0 = b := ⟨_, rfl⟩
  rw [hb] at b0 b1 ⊢
  have HB := Lib.hid hb
  have H := Lib.hid h
  clear h hb
  go_enter Try.func56, Try.ntmps56
  go_wp2_with fail
  refine (fpnext_any H.out.1 (by omega) (by omega)).mono ?_
  rw [HB.out]
  rintro e w1 ⟨rfl, q1, q2⟩
  have Q1 : Hid (PT w1 g T cs o cb n z (q + 1) s) := Lib.hid ⟨q1.congr (by omega) (fun i _ => by rw [Nat.add_assoc]) (by omega), H.out.2⟩
  clear q1
  go_wp2_with fail
  go_ret
  exact ⟨rfl, Q1.out, q2⟩
theorem phalf_any (h : PT w g T cs o cb n z q s) :
    Calls Try.prog 47 #[.pointer (some ⟨g, o, none⟩)] w fun e w' => e = .returned (.func (.func (if s.l % 2 = 1 then 55 else 56)) #[.pointer (some ⟨g, o, none⟩)] #[]) ∧ w = w' := by
  obtain ⟨c0, c1, c2, c3⟩ := h.cells
  obtain ⟨k1, k2⟩ := h.2.2
  have L0 := Lib.hid (lb0 k1)
  have hmf : ∀ (fn : Fn) (first cap : Array Value) (w : World), (Instr.makeFunc fn first cap).run Try.prog w = .ok (.func fn first cap) w := fun _ _ _ _ => rfl
  clear h c0 c1 c3
  by_cases hl : s.l % 2 = 1
  · rw [if_pos hl]
    go_enter Try.func47, Try.ntmps47
    go_wp2_with fail
    refine (bit_v (L0.out.trans (decide_eq_true hl))).mono ?_
    rintro e w' ⟨rfl, rfl⟩
    go_wp2_with fail
    go_ret
    exact ⟨rfl, rfl⟩
  · rw [if_neg hl]
    go_enter Try.func47, Try.ntmps47
    go_wp2_with fail
    refine (bit_v (L0.out.trans (decide_eq_false hl))).mono ?_
    rintro e w' ⟨rfl, rfl⟩
    go_wp2_with fail
    go_ret
    exact ⟨rfl, rfl⟩
set_option maxHeartbeats 1000000 in
theorem pread_any (h : PT w g T cs o cb n z q s) (hq : q ≤ 1000000000) :
    Calls Try.prog 32 #[.pointer (some ⟨g, o, none⟩)] w (PtR (.int .u8 (s.val (peekI (n - q) (fun i => z (q + i)) 0))) g T cs o cb n z (if s.takes then q + 1 else q) s [g, cb] w) := by
  obtain ⟨c0, c1, c2, c3⟩ := h.cells
  obtain ⟨k1, k2⟩ := h.2.2
  obtain ⟨b0, b1⟩ := h.1.byte 0
  have L1 := Lib.hid (lb1 k1)
  have H := Lib.hid h
  clear h c0 c1
  by_cases h5 : s.p = 5
  · have ht : ¬ s.takes := fun x => x (.inl h5)
    unfold Pt.val
    rw [if_neg ht, if_neg ht]
    rw [h5] at c3
    clear ht h5 k2
    go_enter Try.func32, Try.ntmps32
    go_wp2_with fail
    go_ret
    exact ⟨rfl, H.out, Kp.refl _ _⟩
  have n5 : ((s.p : Int) == 5) = false := by
    have : ¬ (s.p : Int) = 5 := by omega
    simpa using this
  by_cases h2 : 2 ≤ s.l
  · have ht : ¬ s.takes := fun x => x (.inr h2)
    unfold Pt.val
    rw [if_neg ht, if_neg ht]
    have hd := decide_eq_true h2
    clear ht
    go_enter Try.func32, Try.ntmps32
    go_wp2_with fail
    refine (bit_v (L1.out.trans (decide_eq_true h2))).mono ?_
    rintro e w' ⟨rfl, rfl⟩
    go_wp2_with fail
    go_ret
    exact ⟨rfl, H.out, Kp.refl _ _⟩
  · have ht : s.takes := fun x => by omega
    unfold Pt.val
    rw [if_pos ht, if_pos ht]
    obtain ⟨b, hb⟩ : ∃ b, peekI (n - q) (fun i => z (q + i)) 0 = b := ⟨_, rfl⟩
    rw [hb] at b0 b1 ⊢
    have HB := Lib.hid hb
    clear ht hb
    by_cases hl : s.l % 2 = 1
    · rw [if_pos hl]
      go_enter Try.func32, Try.ntmps32
      go_wp2_with fail
      refine (bit_v (L1.out.trans (decide_eq_false h2))).mono ?_
      rintro e w' ⟨rfl, rfl⟩
      go_wp2_with fail
      refine (phalf_any H.out).mono ?_
      rw [if_pos hl]
      rintro e w' ⟨rfl, rfl⟩
      go_wp2_with fail
      refine (phigh_any H.out hq).mono ?_
      rw [HB.out]
      rintro e w1 ⟨rfl, q1, q2⟩
      have Q1 := Lib.hid q1
      clear q1
      go_wp2_with fail
      go_ret
      exact ⟨rfl, Q1.out, q2⟩
    · rw [if_neg hl]
      go_enter Try.func32, Try.ntmps32
      go_wp2_with fail
      refine (bit_v (L1.out.trans (decide_eq_false h2))).mono ?_
      rintro e w' ⟨rfl, rfl⟩
      go_wp2_with fail
      refine (phalf_any H.out).mono ?_
      rw [if_neg hl]
      rintro e w' ⟨rfl, rfl⟩
      go_wp2_with fail
      refine (plow_any H.out hq).mono ?_
      rw [HB.out]
      rintro e w1 ⟨rfl, q1, q2⟩
      have Q1 := Lib.hid q1
      clear q1
      go_wp2_with fail
      go_ret
      exact ⟨rfl, Q1.out, q2⟩
end
end Go.Proofs.Ytbdmpgpdnnjmpaa
