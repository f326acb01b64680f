/-
  Texts of these proofs, one behind the other: Feed9, Port1, Port2.
-/
import Derived.Test.YtleofglnlfpoeaaGreatKBP17
import Derived.Test.YtleofglnlfpoeaaGreatKBP15
import Derived.IntWalk
import Derived.Laws.EntriesVeiled
namespace Go.Proofs.YtleofglnlfpoeaaGreat
open Go.RowKit
set_option linter.unusedVariables false
set_option linter.unusedSimpArgs false
set_option maxRecDepth 100000
/-- The function that gives, over what is left in block cb. -/
def giveV (cb : Nat) : Value := .func (.func 133) #[] #[.pointer (some ⟨cb, 0, none⟩)]
/-- The cells of a feed, laid at place o. -/
def fdPut (cs : Array Value) (o cb : Nat) (t : Int) : Array Value := (cs.setIfInBounds o (giveV cb)).setIfInBounds (o + 1) (.int .i64 t)
section
variable {cs : Array Value} {o cb : Nat} {t : Int}
theorem fdPut_size : (fdPut cs o cb t).size = cs.size := by simp [fdPut]
theorem fdPut_at (i : Nat) (h : o + 2 ≤ cs.size) : (fdPut cs o cb t)[i]? = if i = o then some (giveV cb) else if i = o + 1 then some (.int .i64 t) else cs[i]? := by
  unfold fdPut
  simp only [Array.getElem?_setIfInBounds, Array.size_setIfInBounds]
  by_cases e0 : i = o
  · subst e0; simp; omega
  by_cases e1 : i = o + 1
  · subst e1; simp; omega
  rw [if_neg (by omega), if_neg (by omega), if_neg e0, if_neg e1]
theorem fdPut_t (h : o + 2 ≤ cs.size) (u : Int) : (fdPut cs o cb t).setIfInBounds (o + 1) (.int .i64 u) = fdPut cs o cb u := by
  apply Array.ext_getElem?
  intro i
  rw [Array.getElem?_setIfInBounds, fdPut_at i h, fdPut_at i h, fdPut_size]
  by_cases e : o + 1 = i
  · subst e; simp; omega
  · have e' : ¬ i = o + 1 := fun x => e x.symm
    rw [if_neg e]
    simp only [if_neg e']
theorem fdPut_far (h : o + 2 ≤ cs.size) (k : Nat) (hk : k ≠ o ∧ k ≠ o + 1) (v : Value) : (fdPut cs o cb t).setIfInBounds k v = fdPut (cs.setIfInBounds k v) o cb t := by
  apply Array.ext_getElem?
  intro i
  rw [Array.getElem?_setIfInBounds, fdPut_at i h, fdPut_at i (by rw [Array.size_setIfInBounds]; exact h), Array.getElem?_setIfInBounds, fdPut_size]
  by_cases e : k = i
  · subst e
    rw [if_pos rfl, if_neg hk.1, if_neg hk.2, if_pos rfl]
  · rw [if_neg e, if_neg e]
end
/-- At place o of block g, of a type T that is neither bytes nor a slice of them, whose other cells are those of cs, there is a feed. -/
def FP (w : World) (g : Nat) (T : TypeId) (cs : Array Value) (o cb n : Nat) (z : Nat → Int) (t : Int) : Prop :=
  Blk w g T (fdPut cs o cb t) ∧ (o + 2 ≤ cs.size ∧ 5 ≠ T ∧ T ≠ 22) ∧ ∃ v, Blk w cb 22 #[v] ∧ SliceB w cb v n z
section
variable {w w' : World} {g : Nat} {T : TypeId} {cs : Array Value} {o cb n : Nat} {z : Nat → Int} {t : Int}
theorem FP.lt (h : FP w g T cs o cb n z t) : g < w.heap.size := h.1.lt
theorem FP.ltc (h : FP w g T cs o cb n z t) : cb < w.heap.size := by obtain ⟨_, _, v, hc, _⟩ := h; exact hc.lt
theorem FP.ne (h : FP w g T cs o cb n z t) : g ≠ cb := by obtain ⟨hg, ⟨_, _, h3⟩, v, hc, _⟩ := h; exact hg.ne_ hc h3
theorem FP.cells (h : FP w g T cs o cb n z t) : w.cell? ⟨g, o, none⟩ = some (giveV cb) ∧ w.cell? ⟨g, o + 1, none⟩ = some (.int .i64 t) := by
  obtain ⟨hg, ⟨hs, _⟩, _⟩ := h
  refine ⟨?_, ?_⟩ <;> rw [hg.cell, fdPut_at _ hs] <;> simp
theorem FP.kp {L : List Nat} (h : FP w g T cs o cb n z t) (k : Kp L w w') (hL : ∀ x ∈ L, ∃ t cs, Blk w x t cs ∧ 5 ≠ t) (h1 : g ∉ L) (h2 : cb ∉ L) : FP w' g T cs o cb n z t := by
  obtain ⟨hg, hs, v, hc, hb⟩ := h
  exact ⟨hg.kp k h1, hs, v, hc.kp k h2, hb.kp k hL⟩
theorem FP.keep (h : FP w g T cs o cb n z t) (k : Below w.heap.size w w') : FP w' g T cs o cb n z t :=
  h.kp (L := []) (Kp.of_below k) (fun x hx => by cases hx) (by simp) (by simp)
/-- What else lies in its block is changed. -/
theorem FP.put (h : FP w g T cs o cb n z t) (k : Nat) (hk : k ≠ o ∧ k ≠ o + 1) (v : Value) : FP (w.setCell ⟨g, k, none⟩ v) g T (cs.setIfInBounds k v) o cb n z t ∧ Kp [g] w (w.setCell ⟨g, k, none⟩ v) := by
  have hne := h.ne
  obtain ⟨hg, ⟨hs, h2, h3⟩, u, hc, hb⟩ := h
  have kp : Kp [g] w (w.setCell ⟨g, k, none⟩ v) := (Kp.refl _ _).setCell (.inl (by simp)) _
  have hn : ∀ x ∈ [g], ∃ t cs, Blk w x t cs ∧ 5 ≠ t := fun x hx => by
    obtain rfl : x = g := by simpa using hx
    exact ⟨_, _, hg, h2⟩
  refine ⟨⟨?_, ⟨by rw [Array.size_setIfInBounds]; exact hs, h2, h3⟩, u, hc.kp kp (by simpa using hne.symm), hb.kp kp hn⟩, kp⟩
  rw [← fdPut_far hs k hk]
  exact hg.set_ k v
theorem FP.count (h : FP w g T cs o cb n z t) (u : Int) : FP (w.setCell ⟨g, o + 1, none⟩ (.int .i64 u)) g T cs o cb n z u ∧ Kp [g] w (w.setCell ⟨g, o + 1, none⟩ (.int .i64 u)) := by
  have hne := h.ne
  obtain ⟨hg, ⟨hs, h2, h3⟩, v, hc, hb⟩ := h
  have kp : Kp [g] w (w.setCell ⟨g, o + 1, none⟩ (.int .i64 u)) := (Kp.refl _ _).setCell (.inl (by simp)) _
  have hn : ∀ x ∈ [g], ∃ t cs, Blk w x t cs ∧ 5 ≠ t := fun x hx => by
    obtain rfl : x = g := by simpa using hx
    exact ⟨_, _, hg, h2⟩
  refine ⟨⟨?_, ⟨hs, h2, h3⟩, v, hc.kp kp (by simpa using hne.symm), hb.kp kp hn⟩, kp⟩
  rw [← fdPut_t hs]
  exact hg.set_ (o + 1) _
/-- A feed by itself. -/
theorem FP.of_fd (h : FD w g cb n z t) : FP w g 91 (Array.replicate 2 .nilFunc) 0 cb n z t := ⟨h.1, ⟨by decide, by decide, by decide⟩, h.2⟩
theorem FP.congr {n' : Nat} {z' : Nat → Int} {t' : Int} (h : FP w g T cs o cb n z t) (hn : n' = n) (hz : ∀ i, i < n' → z' i = z i) (ht : t' = t) : FP w g T cs o cb n' z' t' := by
  subst hn ht
  obtain ⟨a, b, v, c, A, cap, c1, c2, c3, c4, c5⟩ := h
  exact ⟨a, b, v, c, A, cap, c1, c2, c3, fun i hi => by rw [hz i hi]; exact c4 i hi, c5⟩
theorem peekI_byte {v : Value} (h : SliceB w cb v n z) (k : Int) : 0 ≤ peekI n z k ∧ peekI n z k ≤ 255 := by
  unfold peekI
  split
  · rename_i hk
    obtain ⟨_, _, _, _, _, R, _⟩ := h
    obtain ⟨_, _, _, _, hw⟩ := R k.toNat (by omega)
    exact bounds_u8 hw
  · omega
theorem FP.byte (h : FP w g T cs o cb n z t) (k : Int) : 0 ≤ peekI n z k ∧ peekI n z k ≤ 255 := by
  obtain ⟨_, _, v, _, hs⟩ := h
  exact peekI_byte hs k
end
section
variable {w : World} {g : Nat} {T : TypeId} {cs : Array Value} {o cb n : Nat} {z : Nat → Int} {t : Int}
def FPTookR (n k g : Nat) (T : TypeId) (cs : Array Value) (o cb : Nat) (z : Nat → Int) (t : Int) (w : World) (e : Ending) (w' : World) : Prop :=
  ∃ A cap, e = .returned (.slice A (n - k) cap) ∧ SliceB w' cb (.slice A (n - k) cap) (n - k) (fun i => z (k + i)) ∧ FP w' g T cs o cb (n - k) (fun i => z (k + i)) t ∧ Kp [cb] w w'
set_option maxHeartbeats 1000000 in
theorem fptake_any {k : Nat} (h : FP w g T cs o cb n z t) (hk : k ≤ 1) :
    Calls Tryz.prog 150 #[.pointer (some ⟨g, o, none⟩), .int .i64 k] w (FPTookR n k g T cs o cb z t w) := by
  have c0 := h.cells.1
  have hne := h.ne
  unfold giveV at c0
  obtain ⟨hg, hT, v, hc, hs⟩ := h
  have hfn := fun c W => run_eql_func c W
  have HG := Lib.hid hg
  have HC := Lib.hid hc
  have HS := Lib.hid hs
  have HT := Lib.hid hT
  have HN := Lib.hid hne
  clear hg hc hs hT hne
  go_enter Tryz.func150, Tryz.ntmps150
  go_wp2_with fail
  refine (gives_any HC.out HS.out hk).mono ?_
  rintro e w1 ⟨A, cap, rfl, h1, h2, h3⟩
  have H1 := Lib.hid h1
  have H2 := Lib.hid h2
  clear h1 h2
  go_wp2_with fail
  go_ret
  exact ⟨A, cap, rfl, H1.out, ⟨HG.out.kp h3 (by simpa using HN.out), HT.out, _, H2.out, H1.out⟩, h3⟩
theorem fptake0_any (h : FP w g T cs o cb n z t) :
    Calls Tryz.prog 150 #[.pointer (some ⟨g, o, none⟩), .int .i64 0] w fun e w' => ∃ A cap, e = .returned (.slice A n cap) ∧ SliceB w' cb (.slice A n cap) n z ∧ FP w' g T cs o cb n z t ∧ Kp [cb] w w' := by
  refine (fptake_any (k := 0) h (by omega)).mono ?_
  rintro e w' ⟨A, cap, h1, h2, h3, h4⟩
  have e : (fun i => z (0 + i)) = z := by funext i; rw [Nat.zero_add]
  rw [e] at h2 h3
  exact ⟨A, cap, h1, h2, h3, h4⟩
def FPR (v : Value) (g : Nat) (T : TypeId) (cs : Array Value) (o cb n : Nat) (z : Nat → Int) (t : Int) (L : List Nat) (w : World) (e : Ending) (w' : World) : Prop := e = .returned v ∧ FP w' g T cs o cb n z t ∧ Kp L w w'
set_option maxHeartbeats 1000000 in
theorem fppeek_any {k : Int} (h : FP w g T cs o cb n z t) :
    Calls Tryz.prog 177 #[.pointer (some ⟨g, o, none⟩), .int .i64 k] w (FPR (.int .u8 (peekI n z k)) g T cs o cb n z t [cb] w) := by
  have H := Lib.hid h
  clear h
  by_cases h0 : k < 0
  · rw [peekI_no n z k (by omega)]
    go_enter Tryz.func177, Tryz.ntmps177
    go_wp2_with fail
    refine (fptake0_any H.out).mono ?_
    rintro e w1 ⟨A, cap, rfl, h1, h2, h3⟩
    have hl : n ≤ 9223372036854775807 := by obtain ⟨_, _, q, a, b, _⟩ := h1; unfold maxLen at b; omega
    have H1 := Lib.hid h1
    have HL := Lib.hid hl
    clear h1 hl
    go_wp2
    go_ret
    exact ⟨rfl, h2, h3⟩
  by_cases h1 : k < n
  · obtain ⟨j, rfl⟩ := Int.eq_ofNat_of_zero_le (by omega : 0 ≤ k)
    have hj : j < n := by omega
    rw [peekI_yes n z j hj]
    go_enter Tryz.func177, Tryz.ntmps177
    go_wp2_with fail
    refine (fptake0_any H.out).mono ?_
    rintro e w1 ⟨A, cap, rfl, q1, q2, q3⟩
    obtain ⟨_, _, q, a, b, R, _⟩ := q1
    cases q
    obtain ⟨ad, rfl, _, hc, _⟩ := R j hj
    have HQ := Lib.hid q2
    have HK := Lib.hid q3
    have HR := Lib.hid R
    clear q2 q3 R
    unfold maxLen at b
    go_wp2
    go_ret
    exact ⟨rfl, HQ.out, HK.out⟩
  · rw [peekI_no n z k (by omega)]
    go_enter Tryz.func177, Tryz.ntmps177
    go_wp2_with fail
    refine (fptake0_any H.out).mono ?_
    rintro e w1 ⟨A, cap, rfl, h1, h2, h3⟩
    have H1 := Lib.hid h1
    clear h1
    go_wp2
    go_ret
    exact ⟨rfl, h2, h3⟩
theorem fptaken_any (h : FP w g T cs o cb n z t) :
    Calls Tryz.prog 130 #[.pointer (some ⟨g, o, none⟩)] w fun e w' => e = .returned (.int .i64 t) ∧ w = w' := by
  have c1 := h.cells.2
  clear h
  go_enter Tryz.func130, Tryz.ntmps130
  go_wp2
  go_ret
  exact ⟨rfl, rfl⟩
set_option maxHeartbeats 1000000 in
theorem fpnext_any (h : FP w g T cs o cb n z t) (h0 : 0 ≤ t) (h1 : t ≤ 1000000000) :
    Calls Tryz.prog 156 #[.pointer (some ⟨g, o, none⟩)] w (FPR (.int .u8 (peekI n z 0)) g T cs o cb (n - 1) (fun i => z (1 + i)) (t + 1) [g, cb] w) := by
  have H := Lib.hid h
  clear h
  obtain ⟨b, hb⟩ : ∃ b, peekI n z 0 = b := ⟨_, rfl⟩
  rw [hb]
  have HB := Lib.hid hb
  clear hb
  go_enter Tryz.func156, Tryz.ntmps156
  go_wp2_with fail
  refine (fppeek_any (k := 0) H.out).mono ?_
  rintro e w1 ⟨rfl, q1, q2⟩
  rw [HB.out]
  have Q1 := Lib.hid q1
  clear q1
  go_wp2_with fail
  refine (fptake_any (k := 1) Q1.out (by omega)).mono ?_
  rintro e w2 ⟨A, cap, rfl, _, r1, r2⟩
  have c1 := r1.cells.2
  have f1 := r1.1.frozen (o + 1)
  have R1 := Lib.hid r1
  clear r1
  go_wp2
  go_ret
  obtain ⟨s1, s2⟩ := R1.out.count (t + 1)
  refine ⟨rfl, s1, ((q2.mono ?_).trans (r2.mono (M := [g, cb]) ?_) ?_).trans (s2.mono (M := [g, cb]) ?_) ?_⟩ <;> simp
def FPCloneR (g : Nat) (T : TypeId) (cs : Array Value) (o cb n : Nat) (z : Nat → Int) (t : Int) (w : World) (e : Ending) (w' : World) : Prop :=
  ∃ g2 cb2, e = .returned (.pointer (some ⟨g2, 0, none⟩)) ∧ w.heap.size ≤ g2 ∧ w.heap.size ≤ cb2 ∧ FP w' g2 91 (Array.replicate 2 .nilFunc) 0 cb2 n z t ∧ FP w' g T cs o cb n z t ∧ Kp [cb] w w'
set_option maxHeartbeats 1000000 in
theorem fpclone_any (h : FP w g T cs o cb n z t) (hn : n ≤ 140737488355328) :
    Calls Tryz.prog 101 #[.pointer (some ⟨g, o, none⟩)] w (FPCloneR g T cs o cb n z t w) := by
  have H := Lib.hid h
  clear h
  go_enter Tryz.func101, Tryz.ntmps101
  go_wp2_with fail
  refine (fptake0_any H.out).mono ?_
  rintro e w1 ⟨A, cap, rfl, q1, q2, q3⟩
  have Q1 := Lib.hid q1
  have Q2 := Lib.hid q2
  clear q1 q2
  go_wp2_with fail
  have sA : (A = none → n = 0 ∧ cap = 0) ∧ IRow w1 .u8 A n z := by
    obtain ⟨_, _, q, a, b, R, _, hA, _⟩ := Q1.out
    cases q
    exact ⟨hA, R⟩
  refine (new_any A n cap z sA.1 hn sA.2).mono ?_
  clear sA
  rintro e w2 ⟨g2, cb2, rfl, r1, r2, r3, r4, r5, r6⟩
  have hg1 : g < w1.heap.size := Q2.out.lt
  have hc1 : cb < w1.heap.size := Q2.out.ltc
  have P2 := Lib.hid (Q2.out.keep r6)
  have N2 := Lib.hid (FP.of_fd r5)
  have c1 : w2.cell? ⟨g, o + 1, none⟩ = some (.int .i64 t) := P2.out.cells.2
  have f1 : w2.frozen? ⟨g2, 1, none⟩ = false := r5.1.frozen 1
  have l1 : w2.cell? ⟨g2, 1, none⟩ = some (.int .i64 0) := r5.1.cell 1
  clear r5
  go_wp2
  go_ret
  obtain ⟨s1, s2⟩ := N2.out.count t
  have sz := q3.size
  refine ⟨g2, cb2, rfl, by omega, by omega, s1, ?_, ?_⟩
  · refine P2.out.kp s2 (fun x hx => ?_) ?_ ?_
    · obtain rfl : x = g2 := by simpa using hx
      exact ⟨_, _, N2.out.1, N2.out.2.1.2.1⟩
    · simp; omega
    · simp; omega
  · refine (q3.trans (Kp.of_below r6 (L := [])) (by simp)).trans s2 ?_
    intro x hx
    obtain rfl : x = g2 := by simpa using hx
    exact .inr (by omega)
end
end Go.Proofs.YtleofglnlfpoeaaGreat
namespace Go.Proofs.YtleofglnlfpoeaaGreat
open Go.RowKit
set_option linter.unusedVariables false
set_option linter.unusedSimpArgs false
set_option maxRecDepth 100000
/-- Both lines, and which pad is asked. -/
structure Pt where
  l : Nat
  p : Nat
def Pt.ok (s : Pt) : Prop := s.l ≤ 3 ∧ s.p ≤ 5
def Pt.wr (s : Pt) (b : Int) : Pt :=
  if 2 ≤ (b % 4).toNat then ⟨(b % 4).toNat, 0⟩ else if (b % 4).toNat = 1 ∧ s.l % 2 = 0 then ⟨(b % 4).toNat, min (s.p + 1) 5⟩ else ⟨(b % 4).toNat, s.p⟩
/-- Does a read take a byte? -/
def Pt.takes (s : Pt) : Prop := ¬ (s.p = 5 ∨ 2 ≤ s.l)
instance (s : Pt) : Decidable s.takes := by unfold Pt.takes; infer_instance
/-- What is read, b being the next byte. -/
def Pt.val (s : Pt) (b : Int) : Int := if s.takes then 176 + (if s.l % 2 = 1 then b / 16 else b % 16) else 176
theorem lb0 {l : Nat} (h : l ≤ 3) : bitB (l : Int) 0 = decide (l % 2 = 1) := by
  rw [bit0_eq (by omega) (by omega)]
  congr 1
  apply propext
  omega
theorem lb1 {l : Nat} (h : l ≤ 3) : bitB (l : Int) 1 = decide (2 ≤ l) := by
  rw [bit1_eq (by omega) (by omega)]
  congr 1
  apply propext
  omega
theorem bit_v {b n : Int} {x : Bool} {w : World} (e : bitB b n = x) : Calls Tryz.prog 164 #[.int .u8 b, .int .i64 n] w fun e w' => e = .returned (.bool x) ∧ w = w' := e ▸ bit_any b n w
/-- What of a port isn't its feed, laid at place o. -/
def ptBase (cs : Array Value) (o : Nat) (s : Pt) : Array Value := (cs.setIfInBounds (o + 2) (.int .u8 s.l)).setIfInBounds (o + 3) (.int .i64 s.p)
section
variable {cs : Array Value} {o : Nat} {s : Pt}
theorem ptBase_size : (ptBase cs o s).size = cs.size := by simp [ptBase]
theorem ptBase_at (i : Nat) (h : o + 4 ≤ cs.size) : (ptBase cs o s)[i]? = if i = o + 2 then some (.int .u8 s.l) else if i = o + 3 then some (.int .i64 s.p) else cs[i]? := by
  unfold ptBase
  simp only [Array.getElem?_setIfInBounds, Array.size_setIfInBounds]
  by_cases e0 : i = o + 2
  · subst e0; simp; omega
  by_cases e1 : i = o + 3
  · subst e1; simp; omega
  rw [if_neg (by omega), if_neg (by omega), if_neg e0, if_neg e1]
theorem ptBase_l (h : o + 4 ≤ cs.size) (x : Nat) : (ptBase cs o s).setIfInBounds (o + 2) (.int .u8 x) = ptBase cs o ⟨x, s.p⟩ := by
  apply Array.ext_getElem?
  intro i
  rw [Array.getElem?_setIfInBounds, ptBase_at i h, ptBase_at i h, ptBase_size]
  by_cases e : o + 2 = i
  · subst e; simp; omega
  · have e' : ¬ i = o + 2 := fun x => e x.symm
    rw [if_neg e]
    simp only [if_neg e']
theorem ptBase_p (h : o + 4 ≤ cs.size) (x : Nat) : (ptBase cs o s).setIfInBounds (o + 3) (.int .i64 x) = ptBase cs o ⟨s.l, x⟩ := by
  apply Array.ext_getElem?
  intro i
  rw [Array.getElem?_setIfInBounds, ptBase_at i h, ptBase_at i h, ptBase_size]
  by_cases e : o + 3 = i
  · subst e; simp; omega
  · have e' : ¬ i = o + 3 := fun x => e x.symm
    rw [if_neg e]
    simp only [if_neg e']
end
/-- At place o of block g there is a port, whose feed has the bytes of z, n of them, q of which were asked for. -/
def PT (w : World) (g : Nat) (T : TypeId) (cs : Array Value) (o cb n : Nat) (z : Nat → Int) (q : Nat) (s : Pt) : Prop :=
  FP w g T (ptBase cs o s) o cb (n - q) (fun i => z (q + i)) q ∧ o + 4 ≤ cs.size ∧ s.ok
section
variable {w w' : World} {g : Nat} {T : TypeId} {cs : Array Value} {o cb n : Nat} {z : Nat → Int} {q : Nat} {s : Pt}
theorem PT.lt (h : PT w g T cs o cb n z q s) : g < w.heap.size := h.1.lt
theorem PT.ltc (h : PT w g T cs o cb n z q s) : cb < w.heap.size := h.1.ltc
theorem PT.ne (h : PT w g T cs o cb n z q s) : g ≠ cb := h.1.ne
theorem PT.cells (h : PT w g T cs o cb n z q s) : w.cell? ⟨g, o, none⟩ = some (giveV cb) ∧ w.cell? ⟨g, o + 1, none⟩ = some (.int .i64 q) ∧ w.cell? ⟨g, o + 2, none⟩ = some (.int .u8 s.l) ∧ w.cell? ⟨g, o + 3, none⟩ = some (.int .i64 s.p) := by
  obtain ⟨hf, hs, _⟩ := h
  obtain ⟨h0, h1⟩ := hf.cells
  refine ⟨h0, h1, ?_, ?_⟩ <;> rw [hf.1.cell, fdPut_at _ hf.2.1.1, if_neg (by omega), if_neg (by omega), ptBase_at _ hs] <;> simp
theorem PT.kp {L : List Nat} (h : PT w g T cs o cb n z q s) (k : Kp L w w') (hL : ∀ x ∈ L, ∃ t cs, Blk w x t cs ∧ 5 ≠ t) (h1 : g ∉ L) (h2 : cb ∉ L) : PT w' g T cs o cb n z q s := ⟨h.1.kp k hL h1 h2, h.2⟩
theorem PT.keep (h : PT w g T cs o cb n z q s) (k : Below w.heap.size w w') : PT w' g T cs o cb n z q s := ⟨h.1.keep k, h.2⟩
theorem PT.put_l (h : PT w g T cs o cb n z q s) (x : Nat) (hx : x ≤ 3) : PT (w.setCell ⟨g, o + 2, none⟩ (.int .u8 x)) g T cs o cb n z q ⟨x, s.p⟩ ∧ Kp [g] w (w.setCell ⟨g, o + 2, none⟩ (.int .u8 x)) := by
  obtain ⟨hf, hs, h1, h2⟩ := h
  obtain ⟨a, b⟩ := hf.put (o + 2) ⟨by omega, by omega⟩ (.int .u8 x)
  rw [ptBase_l hs] at a
  exact ⟨⟨a, hs, hx, h2⟩, b⟩
theorem PT.put_p (h : PT w g T cs o cb n z q s) (x : Nat) (hx : x ≤ 5) : PT (w.setCell ⟨g, o + 3, none⟩ (.int .i64 x)) g T cs o cb n z q ⟨s.l, x⟩ ∧ Kp [g] w (w.setCell ⟨g, o + 3, none⟩ (.int .i64 x)) := by
  obtain ⟨hf, hs, h1, h2⟩ := h
  obtain ⟨a, b⟩ := hf.put (o + 3) ⟨by omega, by omega⟩ (.int .i64 x)
  rw [ptBase_p hs] at a
  exact ⟨⟨a, hs, h1, hx⟩, b⟩
end
section
variable {w : World} {g : Nat} {T : TypeId} {cs : Array Value} {o cb n : Nat} {z : Nat → Int} {q : Nat} {s : Pt}
theorem pselect_any (h : PT w g T cs o cb n z q s) :
    Calls Tryz.prog 126 #[.pointer (some ⟨g, o, none⟩)] w fun e w' => e = .returned (.int .u8 s.l) ∧ w = w' := by
  obtain ⟨c0, c1, c2, c3⟩ := h.cells
  clear h
  go_enter Tryz.func126, Tryz.ntmps126
  go_wp2
  go_ret
  exact ⟨rfl, rfl⟩
theorem ptaken_any (h : PT w g T cs o cb n z q s) :
    Calls Tryz.prog 131 #[.pointer (some ⟨g, o, none⟩)] w fun e w' => e = .returned (.int .i64 q) ∧ w = w' := by
  have H := Lib.hid h.1
  clear h
  go_enter Tryz.func131, Tryz.ntmps131
  go_wp2_with fail
  refine (fptaken_any H.out).mono ?_
  rintro e w' ⟨rfl, rfl⟩
  go_wp2_with fail
  go_ret
  exact ⟨rfl, rfl⟩
/-- What a call on a port leaves. -/
def PtR (v : Value) (g : Nat) (T : TypeId) (cs : Array Value) (o cb n : Nat) (z : Nat → Int) (q : Nat) (s : Pt) (L : List Nat) (w : World) (e : Ending) (w' : World) : Prop := e = .returned v ∧ PT w' g T cs o cb n z q s ∧ Kp L w w'
theorem pwrite_any (h : PT w g T cs o cb n z q s) (b : Int) (b0 : 0 ≤ b) (b1 : b ≤ 255) :
    Calls Tryz.prog 161 #[.pointer (some ⟨g, o, none⟩), .int .u8 b] w (PtR (.tuple #[]) g T cs o cb n z q (s.wr b) [g] w) := by
  obtain ⟨c0, c1, c2, c3⟩ := h.cells
  have f2 := h.1.1.frozen (o + 2)
  have f3 := h.1.1.frozen (o + 3)
  obtain ⟨k1, k2⟩ := h.2.2
  have i1 : ((b % 4).toNat : Int) = b % 4 := by omega
  have B0 := Lib.hid (bit0_eq b0 b1)
  have B1 := Lib.hid (bit1_eq b0 b1)
  have L0 := Lib.hid (lb0 k1)
  have H := Lib.hid h
  clear h c0 c1
  by_cases h1 : b / 2 % 2 = 1
  · by_cases h0 : b % 2 = 1
    · by_cases hl : s.l % 2 = 1
      · have hw : s.wr b = ⟨(b % 4).toNat, 0⟩ := by
          unfold Pt.wr
          rw [if_pos (by omega)]
        rw [hw]
        clear hw
        go_enter Tryz.func161, Tryz.ntmps161
        go_wp2_with fail
        refine (bit_v (B0.out.trans (decide_eq_true h0))).mono ?_
        rintro e w' ⟨rfl, rfl⟩
        go_wp2_with fail
        refine (bit_v (L0.out.trans (decide_eq_true hl))).mono ?_
        rintro e w' ⟨rfl, rfl⟩
        go_wp2_with fail
        refine (bit_v (B1.out.trans (decide_eq_true h1))).mono ?_
        rintro e w' ⟨rfl, rfl⟩
        go_wp2_with fail
        first | go_end0 | refine bodyPost_ret (results_none rfl _ _ _) rfl ?_
        obtain ⟨p1, p2⟩ := H.out.put_l (b % 4).toNat (by omega)
        rw [i1] at p1 p2
        obtain ⟨q1, q2⟩ := p1.put_p 0 (by omega)
        exact ⟨rfl, q1, p2.trans q2 (by simp)⟩
      · have hw : s.wr b = ⟨(b % 4).toNat, 0⟩ := by
          unfold Pt.wr
          rw [if_pos (by omega)]
        rw [hw]
        clear hw
        go_enter Tryz.func161, Tryz.ntmps161
        go_wp2_with fail
        refine (bit_v (B0.out.trans (decide_eq_true h0))).mono ?_
        rintro e w' ⟨rfl, rfl⟩
        go_wp2_with fail
        refine (bit_v (L0.out.trans (decide_eq_false hl))).mono ?_
        rintro e w' ⟨rfl, rfl⟩
        go_wp2_with fail
        refine (bit_v (B1.out.trans (decide_eq_true h1))).mono ?_
        rintro e w' ⟨rfl, rfl⟩
        go_wp2_with fail
        first | go_end0 | refine bodyPost_ret (results_none rfl _ _ _) rfl ?_
        obtain ⟨p1, p2⟩ := H.out.put_l (b % 4).toNat (by omega)
        rw [i1] at p1 p2
        obtain ⟨q1, q2⟩ := p1.put_p 0 (by omega)
        exact ⟨rfl, q1, p2.trans q2 (by simp)⟩
    · have hw : s.wr b = ⟨(b % 4).toNat, 0⟩ := by
        unfold Pt.wr
        rw [if_pos (by omega)]
      rw [hw]
      clear hw
      go_enter Tryz.func161, Tryz.ntmps161
      go_wp2_with fail
      refine (bit_v (B0.out.trans (decide_eq_false h0))).mono ?_
      rintro e w' ⟨rfl, rfl⟩
      go_wp2_with fail
      refine (bit_v (B1.out.trans (decide_eq_true h1))).mono ?_
      rintro e w' ⟨rfl, rfl⟩
      go_wp2_with fail
      first | go_end0 | refine bodyPost_ret (results_none rfl _ _ _) rfl ?_
      obtain ⟨p1, p2⟩ := H.out.put_l (b % 4).toNat (by omega)
      rw [i1] at p1 p2
      obtain ⟨q1, q2⟩ := p1.put_p 0 (by omega)
      exact ⟨rfl, q1, p2.trans q2 (by simp)⟩
  · by_cases h0 : b % 2 = 1
    · by_cases hl : s.l % 2 = 1
      · have hw : s.wr b = ⟨(b % 4).toNat, s.p⟩ := by
          unfold Pt.wr
          rw [if_neg (by omega), if_neg (by omega)]
        rw [hw]
        clear hw
        go_enter Tryz.func161, Tryz.ntmps161
        go_wp2_with fail
        refine (bit_v (B0.out.trans (decide_eq_true h0))).mono ?_
        rintro e w' ⟨rfl, rfl⟩
        go_wp2_with fail
        refine (bit_v (L0.out.trans (decide_eq_true hl))).mono ?_
        rintro e w' ⟨rfl, rfl⟩
        go_wp2_with fail
        refine (bit_v (B1.out.trans (decide_eq_false h1))).mono ?_
        rintro e w' ⟨rfl, rfl⟩
        go_wp2_with fail
        first | go_end0 | refine bodyPost_ret (results_none rfl _ _ _) rfl ?_
        obtain ⟨p1, p2⟩ := H.out.put_l (b % 4).toNat (by omega)
        rw [i1] at p1 p2
        exact ⟨rfl, p1, p2⟩
      · have hw : s.wr b = ⟨(b % 4).toNat, min (s.p + 1) 5⟩ := by
          unfold Pt.wr
          rw [if_neg (by omega), if_pos (by omega)]
        rw [hw]
        clear hw
        obtain ⟨x, hx⟩ : ∃ x, min (s.p + 1) 5 = x := ⟨_, rfl⟩
        have eX : (if (5 : Int) < (s.p : Int) + 1 then 5 else (s.p : Int) + 1) = (x : Int) := by split <;> omega
        have hx5 : x ≤ 5 := by omega
        rw [hx]
        clear hx
        go_enter Tryz.func161, Tryz.ntmps161
        go_wp2_with fail
        refine (bit_v (B0.out.trans (decide_eq_true h0))).mono ?_
        rintro e w' ⟨rfl, rfl⟩
        go_wp2_with fail
        refine (bit_v (L0.out.trans (decide_eq_false hl))).mono ?_
        rintro e w' ⟨rfl, rfl⟩
        go_wp2_with fail
        refine (bit_v (B1.out.trans (decide_eq_false h1))).mono ?_
        rintro e w' ⟨rfl, rfl⟩
        go_wp2_with fail
        first | go_end0 | refine bodyPost_ret (results_none rfl _ _ _) rfl ?_
        obtain ⟨p1, p2⟩ := H.out.put_l (b % 4).toNat (by omega)
        rw [i1] at p1 p2
        obtain ⟨q1, q2⟩ := p1.put_p x hx5
        exact ⟨rfl, q1, p2.trans q2 (by simp)⟩
    · have hw : s.wr b = ⟨(b % 4).toNat, s.p⟩ := by
        unfold Pt.wr
        rw [if_neg (by omega), if_neg (by omega)]
      rw [hw]
      clear hw
      go_enter Tryz.func161, Tryz.ntmps161
      go_wp2_with fail
      refine (bit_v (B0.out.trans (decide_eq_false h0))).mono ?_
      rintro e w' ⟨rfl, rfl⟩
      go_wp2_with fail
      refine (bit_v (B1.out.trans (decide_eq_false h1))).mono ?_
      rintro e w' ⟨rfl, rfl⟩
      go_wp2_with fail
      first | go_end0 | refine bodyPost_ret (results_none rfl _ _ _) rfl ?_
      obtain ⟨p1, p2⟩ := H.out.put_l (b % 4).toNat (by omega)
      rw [i1] at p1 p2
      exact ⟨rfl, p1, p2⟩
/-- A half of the next byte. -/
theorem phigh_any (h : PT w g T cs o cb n z q s) (hq : q ≤ 1000000000) :
    Calls Tryz.prog 188 #[.pointer (some ⟨g, o, none⟩)] w (PtR (.int .u8 (peekI (n - q) (fun i => z (q + i)) 0 / 16)) g T cs o cb n z (q + 1) s [g, cb] w) := by
  obtain ⟨b0, b1⟩ := h.1.byte 0
  obtain ⟨b, hb⟩ : ∃ b, peekI (n - q) (fun i => z (q + i)) 0 = b := ⟨_, rfl⟩
  rw [hb] at b0 b1 ⊢
  have HB := Lib.hid hb
  have H := Lib.hid h
  clear h hb
  go_enter Tryz.func188, Tryz.ntmps188
  go_wp2_with fail
  refine (fpnext_any H.out.1 (by omega) (by omega)).mono ?_
  rw [HB.out]
  rintro e w1 ⟨rfl, q1, q2⟩
  have Q1 : Hid (PT w1 g T cs o cb n z (q + 1) s) := Lib.hid ⟨q1.congr (by omega) (fun i _ => by rw [Nat.add_assoc]) (by omega), H.out.2⟩
  clear q1
  go_wp2_with fail
  go_ret
  exact ⟨rfl, Q1.out, q2⟩
theorem plow_any (h : PT w g T cs o cb n z q s) (hq : q ≤ 1000000000) :
    Calls Tryz.prog 189 #[.pointer (some ⟨g, o, none⟩)] w (PtR (.int .u8 (peekI (n - q) (fun i => z (q + i)) 0 % 16)) g T cs o cb n z (q + 1) s [g, cb] w) := by
  obtain ⟨b0, b1⟩ := h.1.byte 0
  obtain ⟨b, hb⟩ : ∃ b, peekI (n - q) (fun i => z (q + i)) 0 = b := ⟨_, rfl⟩
  rw [hb] at b0 b1 ⊢
  have HB := Lib.hid hb
  have H := Lib.hid h
  clear h hb
  go_enter Tryz.func189, Tryz.ntmps189
  go_wp2_with fail
  refine (fpnext_any H.out.1 (by omega) (by omega)).mono ?_
  rw [HB.out]
  rintro e w1 ⟨rfl, q1, q2⟩
  have Q1 : Hid (PT w1 g T cs o cb n z (q + 1) s) := Lib.hid ⟨q1.congr (by omega) (fun i _ => by rw [Nat.add_assoc]) (by omega), H.out.2⟩
  clear q1
  go_wp2_with fail
  go_ret
  exact ⟨rfl, Q1.out, q2⟩
theorem phalf_any (h : PT w g T cs o cb n z q s) :
    Calls Tryz.prog 178 #[.pointer (some ⟨g, o, none⟩)] w fun e w' => e = .returned (.func (.func (if s.l % 2 = 1 then 188 else 189)) #[.pointer (some ⟨g, o, none⟩)] #[]) ∧ w = w' := by
  obtain ⟨c0, c1, c2, c3⟩ := h.cells
  obtain ⟨k1, k2⟩ := h.2.2
  have L0 := Lib.hid (lb0 k1)
  have hmf : ∀ (fn : Fn) (first cap : Array Value) (w : World), (Instr.makeFunc fn first cap).run Tryz.prog w = .ok (.func fn first cap) w := fun _ _ _ _ => rfl
  clear h c0 c1 c3
  by_cases hl : s.l % 2 = 1
  · rw [if_pos hl]
    go_enter Tryz.func178, Tryz.ntmps178
    go_wp2_with fail
    refine (bit_v (L0.out.trans (decide_eq_true hl))).mono ?_
    rintro e w' ⟨rfl, rfl⟩
    go_wp2_with fail
    go_ret
    exact ⟨rfl, rfl⟩
  · rw [if_neg hl]
    go_enter Tryz.func178, Tryz.ntmps178
    go_wp2_with fail
    refine (bit_v (L0.out.trans (decide_eq_false hl))).mono ?_
    rintro e w' ⟨rfl, rfl⟩
    go_wp2_with fail
    go_ret
    exact ⟨rfl, rfl⟩
set_option maxHeartbeats 1000000 in
theorem pread_any (h : PT w g T cs o cb n z q s) (hq : q ≤ 1000000000) :
    Calls Tryz.prog 158 #[.pointer (some ⟨g, o, none⟩)] w (PtR (.int .u8 (s.val (peekI (n - q) (fun i => z (q + i)) 0))) g T cs o cb n z (if s.takes then q + 1 else q) s [g, cb] w) := by
  obtain ⟨c0, c1, c2, c3⟩ := h.cells
  obtain ⟨k1, k2⟩ := h.2.2
  obtain ⟨b0, b1⟩ := h.1.byte 0
  have L1 := Lib.hid (lb1 k1)
  have H := Lib.hid h
  clear h c0 c1
  by_cases h5 : s.p = 5
  · have ht : ¬ s.takes := fun x => x (.inl h5)
    unfold Pt.val
    rw [if_neg ht, if_neg ht]
    rw [h5] at c3
    clear ht h5 k2
    go_enter Tryz.func158, Tryz.ntmps158
    go_wp2_with fail
    go_ret
    exact ⟨rfl, H.out, Kp.refl _ _⟩
  have n5 : ((s.p : Int) == 5) = false := by
    have : ¬ (s.p : Int) = 5 := by omega
    simpa using this
  by_cases h2 : 2 ≤ s.l
  · have ht : ¬ s.takes := fun x => x (.inr h2)
    unfold Pt.val
    rw [if_neg ht, if_neg ht]
    have hd := decide_eq_true h2
    clear ht
    go_enter Tryz.func158, Tryz.ntmps158
    go_wp2_with fail
    refine (bit_v (L1.out.trans (decide_eq_true h2))).mono ?_
    rintro e w' ⟨rfl, rfl⟩
    go_wp2_with fail
    go_ret
    exact ⟨rfl, H.out, Kp.refl _ _⟩
  · have ht : s.takes := fun x => by omega
    unfold Pt.val
    rw [if_pos ht, if_pos ht]
    obtain ⟨b, hb⟩ : ∃ b, peekI (n - q) (fun i => z (q + i)) 0 = b := ⟨_, rfl⟩
    rw [hb] at b0 b1 ⊢
    have HB := Lib.hid hb
    clear ht hb
    by_cases hl : s.l % 2 = 1
    · rw [if_pos hl]
      go_enter Tryz.func158, Tryz.ntmps158
      go_wp2_with fail
      refine (bit_v (L1.out.trans (decide_eq_false h2))).mono ?_
      rintro e w' ⟨rfl, rfl⟩
      go_wp2_with fail
      refine (phalf_any H.out).mono ?_
      rw [if_pos hl]
      rintro e w' ⟨rfl, rfl⟩
      go_wp2_with fail
      refine (phigh_any H.out hq).mono ?_
      rw [HB.out]
      rintro e w1 ⟨rfl, q1, q2⟩
      have Q1 := Lib.hid q1
      clear q1
      go_wp2_with fail
      go_ret
      exact ⟨rfl, Q1.out, q2⟩
    · rw [if_neg hl]
      go_enter Tryz.func158, Tryz.ntmps158
      go_wp2_with fail
      refine (bit_v (L1.out.trans (decide_eq_false h2))).mono ?_
      rintro e w' ⟨rfl, rfl⟩
      go_wp2_with fail
      refine (phalf_any H.out).mono ?_
      rw [if_neg hl]
      rintro e w' ⟨rfl, rfl⟩
      go_wp2_with fail
      refine (plow_any H.out hq).mono ?_
      rw [HB.out]
      rintro e w1 ⟨rfl, q1, q2⟩
      have Q1 := Lib.hid q1
      clear q1
      go_wp2_with fail
      go_ret
      exact ⟨rfl, Q1.out, q2⟩
end
end Go.Proofs.YtleofglnlfpoeaaGreat
namespace Go.Proofs.YtleofglnlfpoeaaGreat
open Go.RowKit
set_option linter.unusedVariables false
set_option linter.unusedSimpArgs false
set_option maxRecDepth 100000
/-- A port by itself. -/
def P0 (w : World) (g cb n : Nat) (z : Nat → Int) (q : Nat) (s : Pt) : Prop := PT w g 93 (Array.replicate 4 .nilFunc) 0 cb n z q s
def NewPR (n : Nat) (z : Nat → Int) (w : World) (e : Ending) (w' : World) : Prop :=
  ∃ g cb, e = .returned (.pointer (some ⟨g, 0, none⟩)) ∧ w.heap.size ≤ g ∧ w.heap.size ≤ cb ∧ P0 w' g cb n z 0 ⟨0, 0⟩ ∧ Below w.heap.size w w'
set_option maxHeartbeats 1000000 in
theorem pnew_any {w : World} (A : Option Addr) (n c : Nat) (z : Nat → Int) (hA : A = none → n = 0 ∧ c = 0) (hm : n ≤ 140737488355328) (R : IRow w .u8 A n z) :
    Calls Tryz.prog 35 #[.slice A n c] w (NewPR n z w) := by
  have HR := Lib.hid R
  have HA := Lib.hid hA
  clear R hA
  go_enter Tryz.func35, Tryz.ntmps35
  go_wp2_with fail
  refine (new_any A n c z HA.out hm HR.out).mono ?_
  rintro e w1 ⟨g1, cb, rfl, h1, h2, h3, h4, h5, h6⟩
  have c0 : w1.cell? ⟨g1, 0, none⟩ = some (giveV cb) := h5.1.cell 0
  have c1 : w1.cell? ⟨g1, 1, none⟩ = some (.int .i64 0) := h5.1.cell 1
  obtain ⟨_, v, hc, hs⟩ := h5
  have HC := Lib.hid hc
  have HS := Lib.hid hs
  unfold giveV at c0
  clear hc hs
  go_wp2
  go_ret
  have sz := h6.size
  have k : Below w1.heap.size w1 (w1.alloc (.cells #[giveV cb, .int .i64 0, .int .u8 0, .int .i64 0] 93)) := (Below.refl _ _).alloc (Nat.le_refl _) _
  have hf : FP (w1.alloc (.cells #[giveV cb, .int .i64 0, .int .u8 0, .int .i64 0] 93)) w1.heap.size 93 (ptBase (Array.replicate 4 .nilFunc) 0 ⟨0, 0⟩) 0 cb n z 0 :=
    ⟨Blk.new w1 _ _, ⟨by decide, by decide, by decide⟩, v, HC.out.alloc _, HS.out.keep k⟩
  exact ⟨w1.heap.size, cb, rfl, sz, h2, ⟨hf.congr (by omega) (fun i _ => by rw [Nat.zero_add]) (by rfl), by decide, ⟨by decide, by decide⟩⟩, h6.trans (k.mono sz)⟩
section
variable (w : World)
end
section
variable {w : World} {g : Nat} {T : TypeId} {cs : Array Value} {o cb n : Nat} {z : Nat → Int} {q : Nat} {s : Pt}
def PCloneR (g : Nat) (T : TypeId) (cs : Array Value) (o cb n : Nat) (z : Nat → Int) (q : Nat) (s : Pt) (w : World) (e : Ending) (w' : World) : Prop :=
  ∃ g2 cb2, e = .returned (.pointer (some ⟨g2, 0, none⟩)) ∧ w.heap.size ≤ g2 ∧ w.heap.size ≤ cb2 ∧ P0 w' g2 cb2 n z q s ∧ PT w' g T cs o cb n z q s ∧ Kp [cb] w w'
set_option maxHeartbeats 2000000 in
theorem pclone_any (h : PT w g T cs o cb n z q s) (hn : n ≤ 140737488355328) :
    Calls Tryz.prog 100 #[.pointer (some ⟨g, o, none⟩)] w (PCloneR g T cs o cb n z q s w) := by
  obtain ⟨c0, c1, c2, c3⟩ := h.cells
  unfold giveV at c0
  have hlt := h.lt
  have hltc := h.ltc
  have H := Lib.hid h
  clear h
  go_enter Tryz.func100, Tryz.ntmps100
  go_wp2_with fail
  have hb := Blk.new w 93 #[giveV cb, .int .i64 q, .int .u8 s.l, .int .i64 s.p]
  have kA : Below w.heap.size w (w.alloc (.cells #[giveV cb, .int .i64 q, .int .u8 s.l, .int .i64 s.p] 93)) := (Below.refl _ _).alloc (Nat.le_refl _) _
  have H1 := Lib.hid (H.out.keep kA)
  have HB1 := Lib.hid hb
  have KA := Lib.hid kA
  have sz1 : w.heap.size < (w.alloc (.cells #[giveV cb, .int .i64 q, .int .u8 s.l, .int .i64 s.p] 93)).heap.size := by simp
  clear hb kA H c0 c1 c2 c3
  unfold giveV at *
  generalize hw1 : w.alloc _ = w1 at *
  clear hw1
  refine (fpclone_any H1.out.1 (by omega)).mono ?_
  rintro e w2 ⟨g2, cb2, rfl, p1, p2, p3, p4, p5⟩
  have hcb : w.heap.size ≠ cb := by omega
  have hb2 := HB1.out.kp p5 (by simpa using hcb)
  have d0 := p3.cells.1
  have d1 : w2.cell? ⟨g2, 1, none⟩ = some (.int .i64 q) := p3.cells.2
  unfold giveV at d0
  have e0 := hb2.cell 0
  have e1 := hb2.cell 1
  have f0 := hb2.frozen 0
  have f1 := hb2.frozen 1
  have HB2 := Lib.hid hb2
  have P3 := Lib.hid p3
  have P4 := Lib.hid p4
  have P5 := Lib.hid p5
  clear hb2 p3 p4 p5
  go_wp2_with fail
  go_ret
  have q1 := (HB2.out.set_ 0 (giveV cb2)).set_ 1 (.int .i64 q)
  have kp : Kp [w.heap.size] w2 ((w2.setCell ⟨w.heap.size, 0, none⟩ (giveV cb2)).setCell ⟨w.heap.size, 1, none⟩ (.int .i64 q)) := ((Kp.refl _ _).setCell (.inl (by simp)) _).setCell (.inl (by simp)) _
  have hn : ∀ x ∈ [w.heap.size], ∃ t cs, Blk w2 x t cs ∧ 5 ≠ t := fun x hx => by
    obtain rfl : x = w.heap.size := by simpa using hx
    exact ⟨_, _, HB2.out, by decide⟩
  obtain ⟨_, _, v, hc, hs⟩ := P3.out
  refine ⟨w.heap.size, cb2, rfl, Nat.le_refl _, by omega, ⟨⟨q1, ⟨by rw [ptBase_size]; decide, by decide, by decide⟩, v, hc.kp kp (by simp; omega), hs.kp kp hn⟩, by decide, H1.out.2.2⟩, ⟨P4.out.kp kp hn (by simp; omega) (by simp; omega), H1.out.2⟩, ?_⟩
  exact ((Kp.of_below KA.out).trans P5.out (by simp)).trans kp (fun x hx => .inr (by
    obtain rfl : x = w.heap.size := by simpa using hx
    exact Nat.le_refl _))
end
end Go.Proofs.YtleofglnlfpoeaaGreat
