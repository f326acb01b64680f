/-
  Texts of these proofs, one behind the other: Feed1, Feed2, Feed3.
-/
import Derived.Test.YtleofglnlfpoeaaGreatKBP03
import Derived.Test.YtleofglnlfpoeaaGreatKBP16
import Derived.FnLit
import Derived.Laws.Small
import Derived.Deep.QuietTactic
import Derived.BigQuiet
import Derived.StillTailTactics
import Derived.RegionTactic
import Derived.BigRegion
namespace Go.Proofs.YtleofglnlfpoeaaGreat
open Go.RowKit
set_option linter.unusedVariables false
/-- A slice of bytes, in blocks of bytes that are older than block cb. -/
def SliceB (w : World) (cb : Nat) (v : Value) (n : Nat) (z : Nat → Int) : Prop := ∃ A cap, v = .slice A n cap ∧ n ≤ cap ∧ cap ≤ maxLen ∧ IRow w .u8 A n z ∧ Typed w A 5 ∧ (A = none → n = 0 ∧ cap = 0) ∧ ∀ ad, A = some ad → ad.block < cb
theorem Typed.old {w : World} {A : Option Addr} {e : TypeId} (h : Typed w A e) : ∀ ad, A = some ad → ad.block < w.heap.size := fun ad x => by
  obtain ⟨C, hC⟩ := h ad x
  exact hC.lt
def CloneR (n : Nat) (z : Nat → Int) (w : World) (e : Ending) (w' : World) : Prop := ∃ v, e = .returned v ∧ SliceB w' w'.heap.size v n z ∧ Below w.heap.size w w'
set_option maxRecDepth 100000 in
theorem clone_run0 {w : World} {ad : Addr} {c : Nat} {t : TypeId} :
    ∃ A cap w', (Builtin.append_ #[22, 22] t #[.slice (some ⟨w.heap.size, 0, none⟩) 0 0, .slice (some ad) 0 c]).run Tryz.prog (w.alloc (.cells #[] 5)) = .ok (.slice A 0 cap) w' ∧
      cap ≤ maxLen ∧ Typed w' A 5 ∧ Below w.heap.size w w' ∧ (A = none → cap = 0) := by
  obtain ⟨i, hi, hzz⟩ := Option.map_eq_some_iff.1 u8_info'
  simp only [Prod.mk.injEq] at hzz
  obtain ⟨hz, hs, hb⟩ := hzz
  have hB0 : Below w.heap.size w (w.alloc (.cells #[] 5)) := (Below.refl _ _).alloc (Nat.le_refl _) _
  have hown0 : (w.alloc (.cells #[] 5)).ownsRow w.heap.size 5 1 (.slice (some ⟨w.heap.size, 0, none⟩) 0 0) 0 [] :=
    ⟨rfl, Or.inr ⟨w.heap.size, 0, #[], rfl, Nat.le_refl _, heap_alloc_new w _, Nat.le_refl _, by unfold maxLen; omega, rfl, rfl⟩⟩
  obtain ⟨v', w', h1, h2, h3, _, _⟩ := run_append_own_at (P := Tryz.prog) (w.alloc (.cells #[] 5)) w.heap.size 22 t 5 i (.int .u8 0) 1 1 Tryz.underlying22 hi hz hs hb rfl (by omega) _ 0 [] hown0 ad 0 c [] rfl
    (fun j u hu => by simp at hu) (by simp) (by unfold maxLen; omega) (by omega) hB0.size
  rcases h2.2 with ⟨rfl, _⟩ | ⟨g', cap', cur, rfl, hg', hh, hnc, hcm, _, _⟩
  · exact ⟨none, 0, w', h1, by unfold maxLen; omega, Typed.none, hB0.grown h3 hB0.size (fun j e => by simp [Value.ownBlock] at e; omega), fun _ => rfl⟩
  · exact ⟨_, cap', w', h1, hcm, fun a x => by cases x; exact ⟨cur, hh⟩, hB0.grown h3 hB0.size (fun j e => by simp [Value.ownBlock] at e; omega), fun h => by cases h⟩
set_option maxHeartbeats 1000000 in
theorem sclone_zero {w : World} (ad : Addr) (c : Nat) (z : Nat → Int) :
    Calls Tryz.prog 41 #[.slice (some ad) 0 c] w (CloneR 0 z w) := by
  have hnil := fun W => Lib.run_eql_slice_nil (P := Tryz.prog) W 22 5 (some ad) 0 c 0 0 Tryz.underlying22
  obtain ⟨A, cap, w', hrun, h1, h2, h5, h6⟩ := clone_run0 (w := w) (ad := ad) (c := c) (t := 22)
  go_enter Tryz.func41, Tryz.ntmps41
  go_wp2_with (at_builtin; refine wpList_append_run rfl (.tmp 5) (.tmp 6) 22 rfl rfl rfl hrun ?_)
  go_ret
  exact ⟨_, rfl, ⟨A, cap, rfl, Nat.zero_le _, h1, fun i hi => absurd hi (by omega), h2, fun x => ⟨rfl, h6 x⟩, h2.old⟩, h5⟩
theorem sclone_nil {w : World} (z : Nat → Int) :
    Calls Tryz.prog 41 #[.slice none 0 0] w (CloneR 0 z w) := by
  have hnil := fun W => Lib.run_eql_slice_nil (P := Tryz.prog) W 22 5 none 0 0 0 0 Tryz.underlying22
  go_enter Tryz.func41, Tryz.ntmps41
  go_wp2
  go_ret
  exact ⟨_, rfl, ⟨none, 0, rfl, Nat.zero_le _, by unfold maxLen; omega, fun i hi => absurd hi (by omega), Typed.none, fun _ => ⟨rfl, rfl⟩, (fun ad x => by cases x)⟩, Below.refl _ _⟩
theorem sclone_any {w : World} (A : Option Addr) (n c : Nat) (z : Nat → Int) (hA : A = none → n = 0 ∧ c = 0) (hm : n ≤ 140737488355328) (R : IRow w .u8 A n z) :
    Calls Tryz.prog 41 #[.slice A n c] w (CloneR n z w) := by
  cases A with
  | none =>
    obtain ⟨rfl, rfl⟩ := hA rfl
    exact sclone_nil z
  | some ad =>
    rcases Nat.eq_zero_or_pos n with rfl | hn
    · exact sclone_zero ad c z
    · refine (clone_any ad n c z hn hm R).mono ?_
      rintro e w' ⟨⟨g, cap, rfl, h1, h2, h3, C, hC⟩, hb⟩
      exact ⟨_, rfl, ⟨some ⟨g, 0, none⟩, cap, rfl, h1, h2, h3, fun a x => by cases x; exact ⟨C, hC⟩, (fun x => by cases x), (fun a x => by cases x; exact hC.lt)⟩, hb⟩
end Go.Proofs.YtleofglnlfpoeaaGreat
namespace Go.Proofs.YtleofglnlfpoeaaGreat
open Go.RowKit
set_option linter.unusedVariables false
/-- A feed of n bytes that are left, and how many were asked for; what is left stands in block cb. -/
def fcs (cb : Nat) (t : Int) : Array Value := #[.func (.func 133) #[] #[.pointer (some ⟨cb, 0, none⟩)], .int .i64 t]
def FD (w : World) (g cb n : Nat) (z : Nat → Int) (t : Int) : Prop :=
  Blk w g 91 (fcs cb t) ∧ ∃ v, Blk w cb 22 #[v] ∧ SliceB w cb v n z
theorem SliceB.kp {w w' : World} {cb : Nat} {v : Value} {n : Nat} {z : Nat → Int} {L : List Nat} (h : SliceB w cb v n z) (k : Kp L w w') (hL : ∀ x ∈ L, ∃ t cs, Blk w x t cs ∧ 5 ≠ t) : SliceB w' cb v n z := by
  obtain ⟨A, cap, e, h1, h2, h3, h4, h5⟩ := h
  exact ⟨A, cap, e, h1, h2, h3.kp k (h4.off hL), h4.kp k (h4.off hL), h5⟩
theorem FD.kp {w w' : World} {g cb n : Nat} {z : Nat → Int} {t : Int} {L : List Nat} (h : FD w g cb n z t) (k : Kp L w w') (hL : ∀ x ∈ L, ∃ t cs, Blk w x t cs ∧ 5 ≠ t) (h1 : g ∉ L) (h2 : cb ∉ L) : FD w' g cb n z t := by
  obtain ⟨hb, v, hc, hs⟩ := h
  exact ⟨hb.kp k h1, v, hc.kp k h2, hs.kp k hL⟩
theorem SliceB.keep {w w' : World} {cb : Nat} {v : Value} {n : Nat} {z : Nat → Int} (h : SliceB w cb v n z) (k : Below w.heap.size w w') : SliceB w' cb v n z :=
  h.kp (L := []) (Kp.of_below k) (fun x hx => by cases hx)
theorem FD.keep {w w' : World} {g cb n : Nat} {z : Nat → Int} {t : Int} (h : FD w g cb n z t) (k : Below w.heap.size w w') : FD w' g cb n z t :=
  h.kp (L := []) (Kp.of_below k) (fun x hx => by cases hx) (by simp) (by simp)
def GiverR (n : Nat) (z : Nat → Int) (w : World) (e : Ending) (w' : World) : Prop :=
  ∃ cb v, e = .returned (.func (.func 133) #[] #[.pointer (some ⟨cb, 0, none⟩)]) ∧ w.heap.size ≤ cb ∧ Blk w' cb 22 #[v] ∧ SliceB w' cb v n z ∧ Below w.heap.size w w'
set_option maxHeartbeats 1000000 in
theorem giver_any {w : World} (A : Option Addr) (n c : Nat) (z : Nat → Int) (hA : A = none → n = 0 ∧ c = 0) (hm : n ≤ 140737488355328) (R : IRow w .u8 A n z) :
    Calls Tryz.prog 81 #[.slice A n c] w (GiverR n z w) := by
  have hmf : ∀ (fn : Fn) (first cap : Array Value) (w : World), (Instr.makeFunc fn first cap).run Tryz.prog w = .ok (.func fn first cap) w := fun _ _ _ _ => rfl
  have RH := Lib.hid R
  have HA := Lib.hid hA
  clear R hA
  go_enter Tryz.func81, Tryz.ntmps81
  go_wp2_with fail
  refine (sclone_any A n c z HA.out hm RH.out).mono ?_
  rintro e w1 ⟨v, rfl, ⟨A', cap, rfl, hs⟩, hb⟩
  have HS : Hid (SliceB w1 w1.heap.size (.slice A' n cap) n z) := Lib.hid ⟨A', cap, rfl, hs⟩
  clear hs
  have sz := hb.size
  go_wp2
  go_ret
  exact ⟨w1.heap.size, .slice A' n cap, rfl, sz, Blk.new w1 _ _, HS.out.keep ((Below.refl _ _).alloc (Nat.le_refl _) _), hb.alloc sz _⟩
def NewR (n : Nat) (z : Nat → Int) (w : World) (e : Ending) (w' : World) : Prop :=
  ∃ g cb, e = .returned (.pointer (some ⟨g, 0, none⟩)) ∧ w.heap.size ≤ g ∧ w.heap.size ≤ cb ∧ g < w'.heap.size ∧ cb < w'.heap.size ∧ FD w' g cb n z 0 ∧ Below w.heap.size w w'
set_option maxHeartbeats 1000000 in
theorem new_any {w : World} (A : Option Addr) (n c : Nat) (z : Nat → Int) (hA : A = none → n = 0 ∧ c = 0) (hm : n ≤ 140737488355328) (R : IRow w .u8 A n z) :
    Calls Tryz.prog 36 #[.slice A n c] w (NewR n z w) := by
  have RH := Lib.hid R
  have HA := Lib.hid hA
  clear R hA
  go_enter Tryz.func36, Tryz.ntmps36
  go_wp2_with fail
  refine (giver_any A n c z HA.out hm RH.out).mono ?_
  rintro e w1 ⟨cb, v, rfl, h1, h2, h3, hb⟩
  have H2 := Lib.hid h2
  have H3 := Lib.hid h3
  clear h2 h3
  have sz := hb.size
  go_wp2
  go_ret
  have k : Below w1.heap.size w1 (w1.alloc (.cells (fcs cb 0) 91)) := (Below.refl _ _).alloc (Nat.le_refl _) _
  have q := H2.out.lt
  exact ⟨w1.heap.size, cb, rfl, sz, h1, by simp, by simp; omega, ⟨Blk.new w1 _ _, v, H2.out.alloc _, H3.out.keep k⟩, hb.alloc sz _⟩
theorem slice_any (A : Option Addr) (n c e : Nat) (he : e ≤ n) (hc : n ≤ c) (W : World) : (Instr.slice 22 (.slice A n c) (some (.int .i64 (e : Int))) none none).run Tryz.prog W = .ok (.slice (if c = e then A else A.map (·.add e)) (n - e) (c - e)) W := by
  have hs : (sizeOf 5).run Tryz.prog W = .ok 1 W := by kernel_rfl
  have he' : Tryz.prog.elem 22 = 5 := by kernel_rfl
  rw [run_slice_l (P := Tryz.prog) W 22 A n c (by rw [he']; exact Tryz.underlying22) .i64 e (by omega) (by omega)]
  rw [he', hs]
  simp [Result.andThen, sliced]
theorem SliceB.from_ {w : World} {cb : Nat} {A : Option Addr} {n c e : Nat} {z : Nat → Int} (h : SliceB w cb (.slice A n c) n z) (he : e ≤ n) (hc : n ≤ c) : SliceB w cb (.slice (if c = e then A else A.map (·.add e)) (n - e) (c - e)) (n - e) (fun i => z (e + i)) := by
  obtain ⟨A', c', q, h1, h2, h3, h4, h5⟩ := h
  cases q
  refine ⟨_, _, rfl, by omega, by omega, h3.from_ he hc, h4.from_ e c, fun x => ?_, fun ad x => ?_⟩
  · split at x
    · obtain ⟨rfl, rfl⟩ := h5.1 x; exact ⟨by omega, by omega⟩
    · cases A with
      | none => obtain ⟨rfl, rfl⟩ := h5.1 rfl; exact ⟨by omega, by omega⟩
      | some a => cases x
  · split at x
    · exact h5.2 ad x
    · cases A with
      | none => cases x
      | some a =>
        simp only [Option.map_some, Option.some.injEq] at x
        rw [← x, block_of_add]
        exact h5.2 a rfl
/-- What the function that gives answers: what is left behind k more, which is kept in its block. -/
def GaveR (n k cb : Nat) (z : Nat → Int) (w : World) (e : Ending) (w' : World) : Prop :=
  ∃ A cap, e = .returned (.slice A (n - k) cap) ∧ SliceB w' cb (.slice A (n - k) cap) (n - k) (fun i => z (k + i)) ∧ Blk w' cb 22 #[.slice A (n - k) cap] ∧ Kp [cb] w w'
set_option maxHeartbeats 1000000 in
theorem gives_any {w : World} {cb n k : Nat} {z : Nat → Int} {v : Value} (hb : Blk w cb 22 #[v]) (hs : SliceB w cb v n z) (hk : k ≤ 1) :
    Calls Tryz.prog 133 #[.int .i64 k, .pointer (some ⟨cb, 0, none⟩)] w (GaveR n k cb z w) := by
  obtain ⟨A, cap, rfl, h1, h2, h3⟩ := hs
  have HS : Hid (SliceB w cb (.slice A n cap) n z) := Lib.hid ⟨A, cap, rfl, h1, h2, h3⟩
  clear h3
  unfold maxLen at h2
  have c0 := hb.cell 0
  have cf := hb.frozen 0
  simp only [List.getElem?_toArray, List.getElem?_cons_zero] at c0
  have HB := Lib.hid hb
  clear hb
  rcases Nat.lt_or_ge n k with hlt | hge
  · have hsl := fun W => slice_any A n cap n (Nat.le_refl _) h1 W
    have hq := HS.out.from_ (e := n) (Nat.le_refl _) h1
    generalize (if cap = n then A else A.map (·.add n)) = A2 at *
    have HQ := Lib.hid hq
    clear hq
    have hlt' : (n : Int) < k := by omega
    go_enter Tryz.func133, Tryz.ntmps133
    go_wp2
    go_ret
    have hz : n - k = 0 := by omega
    have hz2 : n - n = 0 := by omega
    have kp : Kp [cb] w (w.setCell ⟨cb, 0, none⟩ (.slice A2 0 (cap - n))) := (Kp.refl _ _).setCell (.inl (by simp)) _
    have hb := HB.out
    have hn : ∀ x ∈ [cb], ∃ t cs, Blk w x t cs ∧ 5 ≠ t := fun x hx => by
      obtain rfl : x = cb := by simpa using hx
      exact ⟨_, _, hb, by decide⟩
    have q := HQ.out.kp kp hn
    rw [hz2] at q
    refine ⟨A2, cap - n, by rw [hz]; rfl, ?_, ?_, kp⟩
    · rw [hz]
      obtain ⟨A', c', e, p1, p2, p3, p4, p5⟩ := q
      exact ⟨A', c', e, p1, p2, fun i hi => absurd hi (by omega), p4, p5⟩
    · rw [hz]; exact hb.set_ 0 _
  · have hsl := fun W => slice_any A n cap k hge h1 W
    have hq := HS.out.from_ hge h1
    generalize (if cap = k then A else A.map (·.add k)) = A2 at *
    have HQ := Lib.hid hq
    clear hq
    have hge' : ¬ (n : Int) < k := by omega
    go_enter Tryz.func133, Tryz.ntmps133
    go_wp2
    go_ret
    have kp : Kp [cb] w (w.setCell ⟨cb, 0, none⟩ (.slice A2 (n - k) (cap - k))) := (Kp.refl _ _).setCell (.inl (by simp)) _
    have hb := HB.out
    have hn : ∀ x ∈ [cb], ∃ t cs, Blk w x t cs ∧ 5 ≠ t := fun x hx => by
      obtain rfl : x = cb := by simpa using hx
      exact ⟨_, _, hb, by decide⟩
    exact ⟨A2, cap - k, rfl, HQ.out.kp kp hn, hb.set_ 0 _, kp⟩
end Go.Proofs.YtleofglnlfpoeaaGreat
namespace Go.Proofs.YtleofglnlfpoeaaGreat
open Go.RowKit
set_option linter.unusedVariables false
theorem run_eql_func (c : Array Value) (W : World) : (binOp .eql 89 (.func (.func 133) #[] c) .nilFunc).run Tryz.prog W = .ok (.bool false) W := by
  kernel_rfl
/-- The byte that comes so far behind the next one. -/
def peekI (n : Nat) (z : Nat → Int) (k : Int) : Int := if 0 ≤ k ∧ k < n then z k.toNat else 255
theorem peekI_no (n : Nat) (z : Nat → Int) (k : Int) (h : ¬ (0 ≤ k ∧ k < n)) : peekI n z k = 255 := by unfold peekI; rw [if_neg h]
theorem peekI_yes (n : Nat) (z : Nat → Int) (k : Nat) (h : k < n) : peekI n z k = z k := by unfold peekI; rw [if_pos (by omega)]; rfl
end Go.Proofs.YtleofglnlfpoeaaGreat
