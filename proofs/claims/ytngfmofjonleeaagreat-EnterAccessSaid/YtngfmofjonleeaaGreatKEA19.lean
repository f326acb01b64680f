/-
  Texts of these proofs, one behind the other: Port1, Port2, Port3.
-/
import Derived.Test.YtngfmofjonleeaaGreatKEA18
import Derived.Test.YtngfmofjonleeaaGreatKEA02
import Derived.IntWalk
import Derived.Laws.EntriesVeiled
import Derived.BigRegion
import Derived.RegionTactic
namespace Go.Proofs.YtngfmofjonleeaaGreat
open Go.RowKit
set_option linter.unusedVariables false
set_option linter.unusedSimpArgs false
set_option maxRecDepth 100000
/-- Both lines, and which pad is asked. -/
structure Pt where
  l : Nat
  p : Nat
def Pt.ok (s : Pt) : Prop := s.l ≤ 3 ∧ s.p ≤ 5
def Pt.wr (s : Pt) (b : Int) : Pt :=
  if 2 ≤ (b % 4).toNat then ⟨(b % 4).toNat, 0⟩ else if (b % 4).toNat = 1 ∧ s.l % 2 = 0 then ⟨(b % 4).toNat, min (s.p + 1) 5⟩ else ⟨(b % 4).toNat, s.p⟩
/-- Does a read take a byte? -/
def Pt.takes (s : Pt) : Prop := ¬ (s.p = 5 ∨ 2 ≤ s.l)
instance (s : Pt) : Decidable s.takes := by unfold Pt.takes; infer_instance
/-- What is read, b being the next byte. -/
def Pt.val (s : Pt) (b : Int) : Int := if s.takes then 176 + (if s.l % 2 = 1 then b / 16 else b % 16) else 176
theorem lb0 {l : Nat} (h : l ≤ 3) : bitB (l : Int) 0 = decide (l % 2 = 1) := by
  rw [bit0_eq (by omega) (by omega)]
  congr 1
  apply propext
  omega
theorem lb1 {l : Nat} (h : l ≤ 3) : bitB (l : Int) 1 = decide (2 ≤ l) := by
  rw [bit1_eq (by omega) (by omega)]
  congr 1
  apply propext
  omega
theorem bit_v {b n : Int} {x : Bool} {w : World} (e : bitB b n = x) : Calls Tryz.prog 143 #[.int .u8 b, .int .i64 n] w fun e w' => e = .returned (.bool x) ∧ w = w' := e ▸ bit_any b n w
/-- What of a port isn't its feed, laid at place o. -/
def ptBase (cs : Array Value) (o : Nat) (s : Pt) : Array Value := (cs.setIfInBounds (o + 2) (.int .u8 s.l)).setIfInBounds (o + 3) (.int .i64 s.p)
section
variable {cs : Array Value} {o : Nat} {s : Pt}
theorem ptBase_size : (ptBase cs o s).size = cs.size := by simp [ptBase]
theorem ptBase_at (i : Nat) (h : o + 4 ≤ cs.size) : (ptBase cs o s)[i]? = if i = o + 2 then some (.int .u8 s.l) else if i = o + 3 then some (.int .i64 s.p) else cs[i]? := by
  unfold ptBase
  simp only [Array.getElem?_setIfInBounds, Array.size_setIfInBounds]
  by_cases e0 : i = o + 2
  · subst e0; simp; omega
  by_cases e1 : i = o + 3
  · subst e1; simp; omega
  rw [if_neg (by omega), if_neg (by omega), if_neg e0, if_neg e1]
theorem ptBase_l (h : o + 4 ≤ cs.size) (x : Nat) : (ptBase cs o s).setIfInBounds (o + 2) (.int .u8 x) = ptBase cs o ⟨x, s.p⟩ := by
  apply Array.ext_getElem?
  intro i
  rw [Array.getElem?_setIfInBounds, ptBase_at i h, ptBase_at i h, ptBase_size]
  by_cases e : o + 2 = i
  · subst e; simp; omega
  · have e' : ¬ i = o + 2 := fun x => e x.symm
    rw [if_neg e]
    simp only [if_neg e']
theorem ptBase_p (h : o + 4 ≤ cs.size) (x : Nat) : (ptBase cs o s).setIfInBounds (o + 3) (.int .i64 x) = ptBase cs o ⟨s.l, x⟩ := by
  apply Array.ext_getElem?
  intro i
  rw [Array.getElem?_setIfInBounds, ptBase_at i h, ptBase_at i h, ptBase_size]
  by_cases e : o + 3 = i
  · subst e; simp; omega
  · have e' : ¬ i = o + 3 := fun x => e x.symm
    rw [if_neg e]
    simp only [if_neg e']
end
/-- At place o of block g there is a port, whose feed has the bytes of z, n of them, q of which were asked for. -/
def PT (w : World) (g : Nat) (T : TypeId) (cs : Array Value) (o cb n : Nat) (z : Nat → Int) (q : Nat) (s : Pt) : Prop :=
  FP w g T (ptBase cs o s) o cb (n - q) (fun i => z (q + i)) q ∧ o + 4 ≤ cs.size ∧ s.ok
section
variable {w w' : World} {g : Nat} {T : TypeId} {cs : Array Value} {o cb n : Nat} {z : Nat → Int} {q : Nat} {s : Pt}
theorem PT.lt (h : PT w g T cs o cb n z q s) : g < w.heap.size := h.1.lt
theorem PT.ltc (h : PT w g T cs o cb n z q s) : cb < w.heap.size := h.1.ltc
theorem PT.ne (h : PT w g T cs o cb n z q s) : g ≠ cb := h.1.ne
theorem PT.cells (h : PT w g T cs o cb n z q s) : w.cell? ⟨g, o, none⟩ = some (giveV cb) ∧ w.cell? ⟨g, o + 1, none⟩ = some (.int .i64 q) ∧ w.cell? ⟨g, o + 2, none⟩ = some (.int .u8 s.l) ∧ w.cell? ⟨g, o + 3, none⟩ = some (.int .i64 s.p) := by
  obtain ⟨hf, hs, _⟩ := h
  obtain ⟨h0, h1⟩ := hf.cells
  refine ⟨h0, h1, ?_, ?_⟩ <;> rw [hf.1.cell, fdPut_at _ hf.2.1.1, if_neg (by omega), if_neg (by omega), ptBase_at _ hs] <;> simp
theorem PT.kp {L : List Nat} (h : PT w g T cs o cb n z q s) (k : Kp L w w') (hL : ∀ x ∈ L, ∃ t cs, Blk w x t cs ∧ 5 ≠ t) (h1 : g ∉ L) (h2 : cb ∉ L) : PT w' g T cs o cb n z q s := ⟨h.1.kp k hL h1 h2, h.2⟩
theorem PT.keep (h : PT w g T cs o cb n z q s) (k : Below w.heap.size w w') : PT w' g T cs o cb n z q s := ⟨h.1.keep k, h.2⟩
theorem PT.put_l (h : PT w g T cs o cb n z q s) (x : Nat) (hx : x ≤ 3) : PT (w.setCell ⟨g, o + 2, none⟩ (.int .u8 x)) g T cs o cb n z q ⟨x, s.p⟩ ∧ Kp [g] w (w.setCell ⟨g, o + 2, none⟩ (.int .u8 x)) := by
  obtain ⟨hf, hs, h1, h2⟩ := h
  obtain ⟨a, b⟩ := hf.put (o + 2) ⟨by omega, by omega⟩ (.int .u8 x)
  rw [ptBase_l hs] at a
  exact ⟨⟨a, hs, hx, h2⟩, b⟩
theorem PT.put_p (h : PT w g T cs o cb n z q s) (x : Nat) (hx : x ≤ 5) : PT (w.setCell ⟨g, o + 3, none⟩ (.int .i64 x)) g T cs o cb n z q ⟨s.l, x⟩ ∧ Kp [g] w (w.setCell ⟨g, o + 3, none⟩ (.int .i64 x)) := by
  obtain ⟨hf, hs, h1, h2⟩ := h
  obtain ⟨a, b⟩ := hf.put (o + 3) ⟨by omega, by omega⟩ (.int .i64 x)
  rw [ptBase_p hs] at a
  exact ⟨⟨a, hs, h1, hx⟩, b⟩
end
section
variable {w : World} {g : Nat} {T : TypeId} {cs : Array Value} {o cb n : Nat} {z : Nat → Int} {q : Nat} {s : Pt}
/-- What a call on a port leaves. -/
def PtR (v : Value) (g : Nat) (T : TypeId) (cs : Array Value) (o cb n : Nat) (z : Nat → Int) (q : Nat) (s : Pt) (L : List Nat) (w : World) (e : Ending) (w' : World) : Prop := e = .returned v ∧ PT w' g T cs o cb n z q s ∧ Kp L w w'
theorem pwrite_any (h : PT w g T cs o cb n z q s) (b : Int) (b0 : 0 ≤ b) (b1 : b ≤ 255) :
    Calls Tryz.prog 124 #[.pointer (some ⟨g, o, none⟩), .int .u8 b] w (PtR (.tuple #[]) g T cs o cb n z q (s.wr b) [g] w) := by
  obtain ⟨c0, c1, c2, c3⟩ := h.cells
  have f2 := h.1.1.frozen (o + 2)
  have f3 := h.1.1.frozen (o + 3)
  obtain ⟨k1, k2⟩ := h.2.2
  have i1 : ((b % 4).toNat : Int) = b % 4 := by omega
  have B0 := Lib.hid (bit0_eq b0 b1)
  have B1 := Lib.hid (bit1_eq b0 b1)
  have L0 := Lib.hid (lb0 k1)
  have H := Lib.hid h
  clear h c0 c1
  by_cases h1 : b / 2 % 2 = 1
  · by_cases h0 : b % 2 = 1
    · by_cases hl : s.l % 2 = 1
      · have hw : s.wr b = ⟨(b % 4).toNat, 0⟩ := by
          unfold Pt.wr
          rw [if_pos (by omega)]
        rw [hw]
        clear hw
        go_enter Tryz.func124, Tryz.ntmps124
        go_wp2_with fail
        refine (bit_v (B0.out.trans (decide_eq_true h0))).mono ?_
        rintro e w' ⟨rfl, rfl⟩
        go_wp2_with fail
        refine (bit_v (L0.out.trans (decide_eq_true hl))).mono ?_
        rintro e w' ⟨rfl, rfl⟩
        go_wp2_with fail
        refine (bit_v (B1.out.trans (decide_eq_true h1))).mono ?_
        rintro e w' ⟨rfl, rfl⟩
        go_wp2_with fail
        first | go_end0 | refine bodyPost_ret (results_none rfl _ _ _) rfl ?_
        obtain ⟨p1, p2⟩ := H.out.put_l (b % 4).toNat (by omega)
        rw [i1] at p1 p2
        obtain ⟨q1, q2⟩ := p1.put_p 0 (by omega)
        exact ⟨rfl, q1, p2.trans q2 (by simp)⟩
      · have hw : s.wr b = ⟨(b % 4).toNat, 0⟩ := by
          unfold Pt.wr
          rw [if_pos (by omega)]
        rw [hw]
        clear hw
        go_enter Tryz.func124, Tryz.ntmps124
        go_wp2_with fail
        refine (bit_v (B0.out.trans (decide_eq_true h0))).mono ?_
        rintro e w' ⟨rfl, rfl⟩
        go_wp2_with fail
        refine (bit_v (L0.out.trans (decide_eq_false hl))).mono ?_
        rintro e w' ⟨rfl, rfl⟩
        go_wp2_with fail
        refine (bit_v (B1.out.trans (decide_eq_true h1))).mono ?_
        rintro e w' ⟨rfl, rfl⟩
        go_wp2_with fail
        first | go_end0 | refine bodyPost_ret (results_none rfl _ _ _) rfl ?_
        obtain ⟨p1, p2⟩ := H.out.put_l (b % 4).toNat (by omega)
        rw [i1] at p1 p2
        obtain ⟨q1, q2⟩ := p1.put_p 0 (by omega)
        exact ⟨rfl, q1, p2.trans q2 (by simp)⟩
    · have hw : s.wr b = ⟨(b % 4).toNat, 0⟩ := by
        unfold Pt.wr
        rw [if_pos (by omega)]
      rw [hw]
      clear hw
      go_enter Tryz.func124, Tryz.ntmps124
      go_wp2_with fail
      refine (bit_v (B0.out.trans (decide_eq_false h0))).mono ?_
      rintro e w' ⟨rfl, rfl⟩
      go_wp2_with fail
      refine (bit_v (B1.out.trans (decide_eq_true h1))).mono ?_
      rintro e w' ⟨rfl, rfl⟩
      go_wp2_with fail
      first | go_end0 | refine bodyPost_ret (results_none rfl _ _ _) rfl ?_
      obtain ⟨p1, p2⟩ := H.out.put_l (b % 4).toNat (by omega)
      rw [i1] at p1 p2
      obtain ⟨q1, q2⟩ := p1.put_p 0 (by omega)
      exact ⟨rfl, q1, p2.trans q2 (by simp)⟩
  · by_cases h0 : b % 2 = 1
    · by_cases hl : s.l % 2 = 1
      · have hw : s.wr b = ⟨(b % 4).toNat, s.p⟩ := by
          unfold Pt.wr
          rw [if_neg (by omega), if_neg (by omega)]
        rw [hw]
        clear hw
        go_enter Tryz.func124, Tryz.ntmps124
        go_wp2_with fail
        refine (bit_v (B0.out.trans (decide_eq_true h0))).mono ?_
        rintro e w' ⟨rfl, rfl⟩
        go_wp2_with fail
        refine (bit_v (L0.out.trans (decide_eq_true hl))).mono ?_
        rintro e w' ⟨rfl, rfl⟩
        go_wp2_with fail
        refine (bit_v (B1.out.trans (decide_eq_false h1))).mono ?_
        rintro e w' ⟨rfl, rfl⟩
        go_wp2_with fail
        first | go_end0 | refine bodyPost_ret (results_none rfl _ _ _) rfl ?_
        obtain ⟨p1, p2⟩ := H.out.put_l (b % 4).toNat (by omega)
        rw [i1] at p1 p2
        exact ⟨rfl, p1, p2⟩
      · have hw : s.wr b = ⟨(b % 4).toNat, min (s.p + 1) 5⟩ := by
          unfold Pt.wr
          rw [if_neg (by omega), if_pos (by omega)]
        rw [hw]
        clear hw
        obtain ⟨x, hx⟩ : ∃ x, min (s.p + 1) 5 = x := ⟨_, rfl⟩
        have eX : (if (5 : Int) < (s.p : Int) + 1 then 5 else (s.p : Int) + 1) = (x : Int) := by split <;> omega
        have hx5 : x ≤ 5 := by omega
        rw [hx]
        clear hx
        go_enter Tryz.func124, Tryz.ntmps124
        go_wp2_with fail
        refine (bit_v (B0.out.trans (decide_eq_true h0))).mono ?_
        rintro e w' ⟨rfl, rfl⟩
        go_wp2_with fail
        refine (bit_v (L0.out.trans (decide_eq_false hl))).mono ?_
        rintro e w' ⟨rfl, rfl⟩
        go_wp2_with fail
        refine (bit_v (B1.out.trans (decide_eq_false h1))).mono ?_
        rintro e w' ⟨rfl, rfl⟩
        go_wp2_with fail
        first | go_end0 | refine bodyPost_ret (results_none rfl _ _ _) rfl ?_
        obtain ⟨p1, p2⟩ := H.out.put_l (b % 4).toNat (by omega)
        rw [i1] at p1 p2
        obtain ⟨q1, q2⟩ := p1.put_p x hx5
        exact ⟨rfl, q1, p2.trans q2 (by simp)⟩
    · have hw : s.wr b = ⟨(b % 4).toNat, s.p⟩ := by
        unfold Pt.wr
        rw [if_neg (by omega), if_neg (by omega)]
      rw [hw]
      clear hw
      go_enter Tryz.func124, Tryz.ntmps124
      go_wp2_with fail
      refine (bit_v (B0.out.trans (decide_eq_false h0))).mono ?_
      rintro e w' ⟨rfl, rfl⟩
      go_wp2_with fail
      refine (bit_v (B1.out.trans (decide_eq_false h1))).mono ?_
      rintro e w' ⟨rfl, rfl⟩
      go_wp2_with fail
      first | go_end0 | refine bodyPost_ret (results_none rfl _ _ _) rfl ?_
      obtain ⟨p1, p2⟩ := H.out.put_l (b % 4).toNat (by omega)
      rw [i1] at p1 p2
      exact ⟨rfl, p1, p2⟩
/-- A half of the next byte. -/
theorem phigh_any (h : PT w g T cs o cb n z q s) (hq : q ≤ 1000000000) :
    Calls Tryz.prog 157 #[.pointer (some ⟨g, o, none⟩)] w (PtR (.int .u8 (peekI (n - q) (fun i => z (q + i)) 0 / 16)) g T cs o cb n z (q + 1) s [g, cb] w) := by
  obtain ⟨b0, b1⟩ := h.1.byte 0
  obtain ⟨b, hb⟩ : ∃ b, peekI (n - q) (fun i => z (q + i)) 0 = b := ⟨_, rfl⟩
  rw [hb] at b0 b1 ⊢
  have HB := Lib.hid hb
  have H := Lib.hid h
  clear h hb
  go_enter Tryz.func157, Tryz.ntmps157
  go_wp2_with fail
  refine (fpnext_any H.out.1 (by omega) (by omega)).mono ?_
  rw [HB.out]
  rintro e w1 ⟨rfl, q1, q2⟩
  have Q1 : Hid (PT w1 g T cs o cb n z (q + 1) s) := Lib.hid ⟨q1.congr (by omega) (fun i _ => by rw [Nat.add_assoc]) (by omega), H.out.2⟩
  clear q1
  go_wp2_with fail
  go_ret
  exact ⟨rfl, Q1.out, q2⟩
theorem plow_any (h : PT w g T cs o cb n z q s) (hq : q ≤ 1000000000) :
    Calls Tryz.prog 158 #[.pointer (some ⟨g, o, none⟩)] w (PtR (.int .u8 (peekI (n - q) (fun i => z (q + i)) 0 % 16)) g T cs o cb n z (q + 1) s [g, cb] w) := by
  obtain ⟨b0, b1⟩ := h.1.byte 0
  obtain ⟨b, hb⟩ : ∃ b, peekI (n - q) (fun i => z (q + i)) 0 = b := ⟨_, rfl⟩
  rw [hb] at b0 b1 ⊢
  have HB := Lib.hid hb
  have H := Lib.hid h
  clear h hb
  go_enter Tryz.func158, Tryz.ntmps158
  go_wp2_with fail
  refine (fpnext_any H.out.1 (by omega) (by omega)).mono ?_
  rw [HB.out]
  rintro e w1 ⟨rfl, q1, q2⟩
  have Q1 : Hid (PT w1 g T cs o cb n z (q + 1) s) := Lib.hid ⟨q1.congr (by omega) (fun i _ => by rw [Nat.add_assoc]) (by omega), H.out.2⟩
  clear q1
  go_wp2_with fail
  go_ret
  exact ⟨rfl, Q1.out, q2⟩
theorem phalf_any (h : PT w g T cs o cb n z q s) :
    Calls Tryz.prog 150 #[.pointer (some ⟨g, o, none⟩)] w fun e w' => e = .returned (.func (.func (if s.l % 2 = 1 then 157 else 158)) #[.pointer (some ⟨g, o, none⟩)] #[]) ∧ w = w' := by
  obtain ⟨c0, c1, c2, c3⟩ := h.cells
  obtain ⟨k1, k2⟩ := h.2.2
  have L0 := Lib.hid (lb0 k1)
  have hmf : ∀ (fn : Fn) (first cap : Array Value) (w : World), (Instr.makeFunc fn first cap).run Tryz.prog w = .ok (.func fn first cap) w := fun _ _ _ _ => rfl
  clear h c0 c1 c3
  by_cases hl : s.l % 2 = 1
  · rw [if_pos hl]
    go_enter Tryz.func150, Tryz.ntmps150
    go_wp2_with fail
    refine (bit_v (L0.out.trans (decide_eq_true hl))).mono ?_
    rintro e w' ⟨rfl, rfl⟩
    go_wp2_with fail
    go_ret
    exact ⟨rfl, rfl⟩
  · rw [if_neg hl]
    go_enter Tryz.func150, Tryz.ntmps150
    go_wp2_with fail
    refine (bit_v (L0.out.trans (decide_eq_false hl))).mono ?_
    rintro e w' ⟨rfl, rfl⟩
    go_wp2_with fail
    go_ret
    exact ⟨rfl, rfl⟩
set_option maxHeartbeats 1000000 in
theorem pread_any (h : PT w g T cs o cb n z q s) (hq : q ≤ 1000000000) :
    Calls Tryz.prog 134 #[.pointer (some ⟨g, o, none⟩)] w (PtR (.int .u8 (s.val (peekI (n - q) (fun i => z (q + i)) 0))) g T cs o cb n z (if s.takes then q + 1 else q) s [g, cb] w) := by
  obtain ⟨c0, c1, c2, c3⟩ := h.cells
  obtain ⟨k1, k2⟩ := h.2.2
  obtain ⟨b0, b1⟩ := h.1.byte 0
  have L1 := Lib.hid (lb1 k1)
  have H := Lib.hid h
  clear h c0 c1
  by_cases h5 : s.p = 5
  · have ht : ¬ s.takes := fun x => x (.inl h5)
    unfold Pt.val
    rw [if_neg ht, if_neg ht]
    rw [h5] at c3
    clear ht h5 k2
    go_enter Tryz.func134, Tryz.ntmps134
    go_wp2_with fail
    go_ret
    exact ⟨rfl, H.out, Kp.refl _ _⟩
  have n5 : ((s.p : Int) == 5) = false := by
    have : ¬ (s.p : Int) = 5 := by omega
    simpa using this
  by_cases h2 : 2 ≤ s.l
  · have ht : ¬ s.takes := fun x => x (.inr h2)
    unfold Pt.val
    rw [if_neg ht, if_neg ht]
    have hd := decide_eq_true h2
    clear ht
    go_enter Tryz.func134, Tryz.ntmps134
    go_wp2_with fail
    refine (bit_v (L1.out.trans (decide_eq_true h2))).mono ?_
    rintro e w' ⟨rfl, rfl⟩
    go_wp2_with fail
    go_ret
    exact ⟨rfl, H.out, Kp.refl _ _⟩
  · have ht : s.takes := fun x => by omega
    unfold Pt.val
    rw [if_pos ht, if_pos ht]
    obtain ⟨b, hb⟩ : ∃ b, peekI (n - q) (fun i => z (q + i)) 0 = b := ⟨_, rfl⟩
    rw [hb] at b0 b1 ⊢
    have HB := Lib.hid hb
    clear ht hb
    by_cases hl : s.l % 2 = 1
    · rw [if_pos hl]
      go_enter Tryz.func134, Tryz.ntmps134
      go_wp2_with fail
      refine (bit_v (L1.out.trans (decide_eq_false h2))).mono ?_
      rintro e w' ⟨rfl, rfl⟩
      go_wp2_with fail
      refine (phalf_any H.out).mono ?_
      rw [if_pos hl]
      rintro e w' ⟨rfl, rfl⟩
      go_wp2_with fail
      refine (phigh_any H.out hq).mono ?_
      rw [HB.out]
      rintro e w1 ⟨rfl, q1, q2⟩
      have Q1 := Lib.hid q1
      clear q1
      go_wp2_with fail
      go_ret
      exact ⟨rfl, Q1.out, q2⟩
    · rw [if_neg hl]
      go_enter Tryz.func134, Tryz.ntmps134
      go_wp2_with fail
      refine (bit_v (L1.out.trans (decide_eq_false h2))).mono ?_
      rintro e w' ⟨rfl, rfl⟩
      go_wp2_with fail
      refine (phalf_any H.out).mono ?_
      rw [if_neg hl]
      rintro e w' ⟨rfl, rfl⟩
      go_wp2_with fail
      refine (plow_any H.out hq).mono ?_
      rw [HB.out]
      rintro e w1 ⟨rfl, q1, q2⟩
      have Q1 := Lib.hid q1
      clear q1
      go_wp2_with fail
      go_ret
      exact ⟨rfl, Q1.out, q2⟩
end
end Go.Proofs.YtngfmofjonleeaaGreat
namespace Go.Proofs.YtngfmofjonleeaaGreat
open Go.RowKit
set_option linter.unusedVariables false
set_option linter.unusedSimpArgs false
set_option maxRecDepth 100000
/-- A port by itself. -/
def P0 (w : World) (g cb n : Nat) (z : Nat → Int) (q : Nat) (s : Pt) : Prop := PT w g 86 (Array.replicate 4 .nilFunc) 0 cb n z q s
def NewPR (n : Nat) (z : Nat → Int) (w : World) (e : Ending) (w' : World) : Prop :=
  ∃ g cb, e = .returned (.pointer (some ⟨g, 0, none⟩)) ∧ w.heap.size ≤ g ∧ w.heap.size ≤ cb ∧ P0 w' g cb n z 0 ⟨0, 0⟩ ∧ Below w.heap.size w w'
set_option maxHeartbeats 1000000 in
theorem pnew_any {w : World} (A : Option Addr) (n c : Nat) (z : Nat → Int) (hA : A = none → n = 0 ∧ c = 0) (hm : n ≤ 140737488355328) (R : IRow w .u8 A n z) :
    Calls Tryz.prog 24 #[.slice A n c] w (NewPR n z w) := by
  have HR := Lib.hid R
  have HA := Lib.hid hA
  clear R hA
  go_enter Tryz.func24, Tryz.ntmps24
  go_wp2_with fail
  refine (new_any A n c z HA.out hm HR.out).mono ?_
  rintro e w1 ⟨g1, cb, rfl, h1, h2, h3, h4, h5, h6⟩
  have c0 : w1.cell? ⟨g1, 0, none⟩ = some (giveV cb) := h5.1.cell 0
  have c1 : w1.cell? ⟨g1, 1, none⟩ = some (.int .i64 0) := h5.1.cell 1
  obtain ⟨_, v, hc, hs⟩ := h5
  have HC := Lib.hid hc
  have HS := Lib.hid hs
  unfold giveV at c0
  clear hc hs
  go_wp2
  go_ret
  have sz := h6.size
  have k : Below w1.heap.size w1 (w1.alloc (.cells #[giveV cb, .int .i64 0, .int .u8 0, .int .i64 0] 86)) := (Below.refl _ _).alloc (Nat.le_refl _) _
  have hf : FP (w1.alloc (.cells #[giveV cb, .int .i64 0, .int .u8 0, .int .i64 0] 86)) w1.heap.size 86 (ptBase (Array.replicate 4 .nilFunc) 0 ⟨0, 0⟩) 0 cb n z 0 :=
    ⟨Blk.new w1 _ _, ⟨by decide, by decide, by decide⟩, v, HC.out.alloc _, HS.out.keep k⟩
  exact ⟨w1.heap.size, cb, rfl, sz, h2, ⟨hf.congr (by omega) (fun i _ => by rw [Nat.zero_add]) (by rfl), by decide, ⟨by decide, by decide⟩⟩, h6.trans (k.mono sz)⟩
section
variable (w : World)
end
section
variable {w : World} {g : Nat} {T : TypeId} {cs : Array Value} {o cb n : Nat} {z : Nat → Int} {q : Nat} {s : Pt}
end
end Go.Proofs.YtngfmofjonleeaaGreat
namespace Go.Proofs.YtngfmofjonleeaaGreat
open Go.RowKit
set_option linter.unusedVariables false
set_option linter.unusedSimpArgs false
set_option maxRecDepth 100000
def rpC (A : Option Addr) (n c t : Nat) (s : Pt) : Array Value := #[.slice A n c, .int .i64 t, .int .u8 s.l, .int .i64 s.p]
/-- In block r there is the reference's port, over the slice of bytes that came in. -/
def RP (w : World) (r : Nat) (A : Option Addr) (n c t : Nat) (s : Pt) : Prop := Blk w r 155 (rpC A n c t s) ∧ s.ok
section
variable {w w' : World} {r n c t : Nat} {A : Option Addr} {z : Nat → Int} {s : Pt}
theorem RP.kp {L : List Nat} (h : RP w r A n c t s) (k : Kp L w w') (hL : r ∉ L) : RP w' r A n c t s := ⟨h.1.kp k hL, h.2⟩
theorem RP.keep {m : Nat} (h : RP w r A n c t s) (k : Below m w w') (hm : r < m) : RP w' r A n c t s := ⟨h.1.below k hm, h.2⟩
theorem RP.lt (h : RP w r A n c t s) : r < w.heap.size := h.1.lt
theorem RP.cells (h : RP w r A n c t s) : w.cell? ⟨r, 0, none⟩ = some (.slice A n c) ∧ w.cell? ⟨r, 1, none⟩ = some (.int .i64 t) ∧ w.cell? ⟨r, 2, none⟩ = some (.int .u8 s.l) ∧ w.cell? ⟨r, 3, none⟩ = some (.int .i64 s.p) :=
  ⟨h.1.cell 0, h.1.cell 1, h.1.cell 2, h.1.cell 3⟩
theorem RP.put {x : Value} {k t' : Nat} {s' : Pt} (h : RP w r A n c t s) (e : (rpC A n c t s).setIfInBounds k x = rpC A n c t' s') (hs : s'.ok) : RP (w.setCell ⟨r, k, none⟩ x) r A n c t' s' ∧ Kp [r] w (w.setCell ⟨r, k, none⟩ x) := by
  refine ⟨⟨?_, hs⟩, (Kp.refl _ _).setCell (.inl (by simp)) _⟩
  rw [← e]
  exact h.1.set_ k x
end
def RpR (v : Value) (r : Nat) (A : Option Addr) (n c t : Nat) (s : Pt) (w : World) (e : Ending) (w' : World) : Prop := e = .returned v ∧ RP w' r A n c t s ∧ Kp [r] w w'
def NewRPR (A : Option Addr) (n c : Nat) (w : World) (e : Ending) (w' : World) : Prop :=
  e = .returned (.pointer (some ⟨w.heap.size, 0, none⟩)) ∧ RP w' w.heap.size A n c 0 ⟨0, 0⟩ ∧ Below w.heap.size w w'
theorem rpnew_any (A : Option Addr) (n c : Nat) (w : World) : Calls Tryz.prog 28 #[.slice A n c] w (NewRPR A n c w) := by
  go_enter Tryz.func28, Tryz.ntmps28
  go_wp2
  go_ret
  exact ⟨rfl, ⟨Blk.new w _ _, by decide, by decide⟩, (Below.refl _ _).alloc (Nat.le_refl _) _⟩
section
variable {w : World} {r n c t : Nat} {A : Option Addr} {z : Nat → Int} {s : Pt}
set_option maxHeartbeats 2000000 in
theorem rppeek_any (c0 : w.cell? ⟨r, 0, none⟩ = some (.slice A n c)) (c1 : w.cell? ⟨r, 1, none⟩ = some (.int .i64 t)) (R : IRow w .u8 A n z) (hn : n ≤ 140737488355328) (ht : t ≤ 1000000000) :
    Calls Tryz.prog 109 #[.pointer (some ⟨r, 0, none⟩), .int .i64 0] w fun e w' => e = .returned (.int .u8 (peekI (n - t) (fun j => z (t + j)) 0)) ∧ Kp [] w w' := by
  by_cases h1 : t < n
  · rw [show ((0 : Int)) = ((0 : Nat) : Int) from rfl, peekI_yes _ _ 0 (by omega)]
    have h2 : ¬ ((n : Int) - t ≤ 0) := by omega
    have d2 : decide ((n : Int) - t ≤ 0) = false := decide_eq_false h2
    obtain ⟨ad, rfl, _, hc, _⟩ := R (t + 0) (by omega)
    have i0 : (0 : Int) ≤ (t : Int) := by omega
    have i1 : (t : Int) < n := by omega
    have e1 : ((t : Int)).toNat = t := by omega
    rw [Nat.add_zero] at hc
    show Calls Tryz.prog 109 #[.pointer (some ⟨r, 0, none⟩), .int .i64 0] w fun e w' => e = .returned (.int .u8 (z t)) ∧ Kp [] w w'
    clear R
    go_enter Tryz.func109, Tryz.ntmps109
    go_wp2_with fail
    go_quiet (fail)
    go_wp2
    go_quiet (fail)
    go_wp2
    go_ret
    exact ⟨rfl, by rw [World.drewN_drewN]; exact (Kp.refl _ _).drewN _⟩
  · rw [peekI_no _ _ 0 (by omega)]
    have h2 : (n : Int) - t ≤ 0 := by omega
    have d2 : decide ((n : Int) - t ≤ 0) = true := decide_eq_true h2
    clear R
    go_enter Tryz.func109, Tryz.ntmps109
    go_wp2_with fail
    go_quiet (fail)
    go_wp2
    go_ret
    exact ⟨rfl, (Kp.refl _ _).drewN _⟩
set_option maxHeartbeats 2000000 in
theorem rpnext_any (h : RP w r A n c t s) (R : IRow w .u8 A n z) (hn : n ≤ 140737488355328) (ht : t ≤ 1000000000) :
    Calls Tryz.prog 78 #[.pointer (some ⟨r, 0, none⟩)] w (RpR (.int .u8 (peekI (n - t) (fun j => z (t + j)) 0)) r A n c (t + 1) s w) := by
  have H := Lib.hid h
  have HR := Lib.hid R
  clear h R
  obtain ⟨b, hb⟩ : ∃ b, peekI (n - t) (fun j => z (t + j)) 0 = b := ⟨_, rfl⟩
  rw [hb]
  have HB := Lib.hid hb
  clear hb
  go_enter Tryz.func78, Tryz.ntmps78
  go_wp2_with fail
  refine (rppeek_any H.out.cells.1 H.out.cells.2.1 HR.out hn ht).mono ?_
  rw [HB.out]
  rintro e w1 ⟨rfl, k1⟩
  have H1 := Lib.hid (H.out.kp k1 (by simp))
  have c1 := H1.out.cells.2.1
  have f1 := H1.out.1.frozen 1
  go_wp2
  go_ret
  obtain ⟨p1, p2⟩ := H1.out.put (k := 1) (x := .int .i64 ((t + 1 : Nat) : Int)) (t' := t + 1) (s' := s) rfl H.out.2
  exact ⟨rfl, p1, (k1.mono (by simp)).trans p2 (by simp)⟩
theorem rpwrite_any (h : RP w r A n c t s) (b : Int) (b0 : 0 ≤ b) (b1 : b ≤ 255) :
    Calls Tryz.prog 75 #[.pointer (some ⟨r, 0, none⟩), .int .u8 b] w (RpR (.tuple #[]) r A n c t (s.wr b) w) := by
  obtain ⟨c0, c1, c2, c3⟩ := h.cells
  have f2 := h.1.frozen 2
  have f3 := h.1.frozen 3
  obtain ⟨k1, k2⟩ := h.2
  have hl3 : (b % 4).toNat ≤ 3 := by omega
  obtain ⟨p1, p2⟩ := h.put (k := 2) (x := .int .u8 ((b % 4).toNat : Int)) (t' := t) (s' := ⟨(b % 4).toNat, s.p⟩) rfl ⟨hl3, k2⟩
  have i1 : ((b % 4).toNat : Int) = b % 4 := by omega
  rw [i1] at p1 p2
  have P1 := Lib.hid p1
  have P2 := Lib.hid p2
  clear h p1 p2 c0 c1 i1
  by_cases h2 : 2 ≤ b % 4
  · have hw : s.wr b = ⟨(b % 4).toNat, 0⟩ := by unfold Pt.wr; rw [if_pos (by omega)]
    rw [hw]
    clear hw
    go_enter Tryz.func75, Tryz.ntmps75
    go_wp2_with fail
    first | go_end0 | refine bodyPost_ret (results_none rfl _ _ _) rfl ?_
    obtain ⟨q1, q2⟩ := P1.out.put (k := 3) (x := .int .i64 0) (t' := t) (s' := ⟨(b % 4).toNat, 0⟩) rfl ⟨hl3, by dsimp only; omega⟩
    exact ⟨rfl, q1, P2.out.trans q2 (by simp)⟩
  have j2 : ¬ 2 ≤ b % 4 := h2
  by_cases h1 : b % 4 = 1
  · have j1 : (b % 4 == 1) = true := by simpa using h1
    by_cases hl : s.l % 2 = 0
    · have jl : ((s.l : Int) % 2 == 0) = true := by
        have : (s.l : Int) % 2 = 0 := by omega
        simpa using this
      by_cases h5 : s.p < 5
      · have j5 : (s.p : Int) < 5 := by omega
        have hw : s.wr b = ⟨(b % 4).toNat, s.p + 1⟩ := by
          unfold Pt.wr
          rw [if_neg (by omega), if_pos (by omega)]
          congr 1
          omega
        rw [hw]
        clear hw h1
        go_enter Tryz.func75, Tryz.ntmps75
        go_wp2_with fail
        first | go_end0 | refine bodyPost_ret (results_none rfl _ _ _) rfl ?_
        obtain ⟨q1, q2⟩ := P1.out.put (k := 3) (x := .int .i64 ((s.p + 1 : Nat) : Int)) (t' := t) (s' := ⟨(b % 4).toNat, s.p + 1⟩) rfl ⟨hl3, by dsimp only; omega⟩
        exact ⟨rfl, q1, P2.out.trans q2 (by simp)⟩
      · have j5 : ¬ (s.p : Int) < 5 := by omega
        have hw : s.wr b = ⟨(b % 4).toNat, s.p⟩ := by
          unfold Pt.wr
          rw [if_neg (by omega), if_pos (by omega)]
          congr 1
          omega
        rw [hw]
        clear hw h1
        go_enter Tryz.func75, Tryz.ntmps75
        go_wp2_with fail
        first | go_end0 | refine bodyPost_ret (results_none rfl _ _ _) rfl ?_
        exact ⟨rfl, P1.out, P2.out⟩
    · have jl : ((s.l : Int) % 2 == 0) = false := by
        have : ¬ (s.l : Int) % 2 = 0 := by omega
        simpa using this
      have hw : s.wr b = ⟨(b % 4).toNat, s.p⟩ := by
        unfold Pt.wr
        rw [if_neg (by omega), if_neg (by omega)]
      rw [hw]
      clear hw h1
      go_enter Tryz.func75, Tryz.ntmps75
      go_wp2_with fail
      first | go_end0 | refine bodyPost_ret (results_none rfl _ _ _) rfl ?_
      exact ⟨rfl, P1.out, P2.out⟩
  · have j1 : (b % 4 == 1) = false := by simpa using h1
    have hw : s.wr b = ⟨(b % 4).toNat, s.p⟩ := by
      unfold Pt.wr
      rw [if_neg (by omega), if_neg (by omega)]
    rw [hw]
    clear hw
    go_enter Tryz.func75, Tryz.ntmps75
    go_wp2_with fail
    first | go_end0 | refine bodyPost_ret (results_none rfl _ _ _) rfl ?_
    exact ⟨rfl, P1.out, P2.out⟩
set_option maxHeartbeats 1000000 in
theorem rpread_any (h : RP w r A n c t s) (R : IRow w .u8 A n z) (hn : n ≤ 140737488355328) (ht : t ≤ 1000000000) (hb : 0 ≤ peekI (n - t) (fun j => z (t + j)) 0 ∧ peekI (n - t) (fun j => z (t + j)) 0 ≤ 255) :
    Calls Tryz.prog 80 #[.pointer (some ⟨r, 0, none⟩)] w (RpR (.int .u8 (s.val (peekI (n - t) (fun j => z (t + j)) 0))) r A n c (if s.takes then t + 1 else t) s w) := by
  obtain ⟨c0, c1, c2, c3⟩ := h.cells
  obtain ⟨k1, k2⟩ := h.2
  have H := Lib.hid h
  have HR := Lib.hid R
  clear h R c0 c1
  by_cases h2 : 2 ≤ s.l
  · have hk : ¬ s.takes := fun x => x (.inr h2)
    unfold Pt.val
    rw [if_neg hk, if_neg hk]
    have j2 : (2 : Int) ≤ s.l := by omega
    clear hk
    go_enter Tryz.func80, Tryz.ntmps80
    go_wp2_with fail
    go_ret
    exact ⟨rfl, H.out, Kp.refl _ _⟩
  have j2 : ¬ (2 : Int) ≤ s.l := by omega
  by_cases h5 : s.p = 5
  · have hk : ¬ s.takes := fun x => x (.inl h5)
    unfold Pt.val
    rw [if_neg hk, if_neg hk]
    rw [h5] at c3
    clear hk h5 k2
    go_enter Tryz.func80, Tryz.ntmps80
    go_wp2_with fail
    go_ret
    exact ⟨rfl, H.out, Kp.refl _ _⟩
  have j5 : ¬ (4 : Int) < s.p := by omega
  have hk : s.takes := fun x => by omega
  unfold Pt.val
  rw [if_pos hk, if_pos hk]
  obtain ⟨b0, b1⟩ := hb
  obtain ⟨b, hb⟩ : ∃ b, peekI (n - t) (fun i => z (t + i)) 0 = b := ⟨_, rfl⟩
  rw [hb] at b0 b1 ⊢
  have HB := Lib.hid hb
  clear hk hb h5
  by_cases hl : s.l % 2 = 1
  · rw [if_pos hl]
    have jl : ((s.l : Int) % 2 == 1) = true := by
      have : (s.l : Int) % 2 = 1 := by omega
      simpa using this
    go_enter Tryz.func80, Tryz.ntmps80
    go_wp2_with fail
    refine (rpnext_any H.out HR.out hn ht).mono ?_
    rw [HB.out]
    rintro e w1 ⟨rfl, q1, q2⟩
    have d2 := q1.cells.2.2.1
    have Q1 := Lib.hid q1
    clear q1
    go_wp2_with fail
    go_ret
    exact ⟨rfl, Q1.out, q2⟩
  · rw [if_neg hl]
    have jl : ((s.l : Int) % 2 == 1) = false := by
      have : ¬ (s.l : Int) % 2 = 1 := by omega
      simpa using this
    go_enter Tryz.func80, Tryz.ntmps80
    go_wp2_with fail
    refine (rpnext_any H.out HR.out hn ht).mono ?_
    rw [HB.out]
    rintro e w1 ⟨rfl, q1, q2⟩
    have d2 := q1.cells.2.2.1
    have Q1 := Lib.hid q1
    clear q1
    go_wp2_with fail
    go_ret
    exact ⟨rfl, Q1.out, q2⟩
end
end Go.Proofs.YtngfmofjonleeaaGreat
