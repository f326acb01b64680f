/-
  Feeds: what a feed is in memory; giver, New, the function that gives, take.
-/
import Derived.Test.YtbdmpgpdnnjmpaaFeed1
import Derived.Laws.Small
namespace Go.Proofs.Ytbdmpgpdnnjmpaa
open Go.RowKit
set_option linter.unusedVariables false
/-- A feed of n bytes that are left, and how many were asked for; what is left stands in block cb. -/
def fcs (cb : Nat) (t : Int) : Array Value := #[.func (.func 58) #[] #[.pointer (some ⟨cb, 0, none⟩)], .int .i64 t]
def FD (w : World) (g cb n : Nat) (z : Nat → Int) (t : Int) : Prop :=
  Blk w g 73 (fcs cb t) ∧ ∃ v, Blk w cb 44 #[v] ∧ SliceB w v n z
theorem SliceB.kp {w w' : World} {v : Value} {n : Nat} {z : Nat → Int} {L : List Nat} (h : SliceB w v n z) (k : Kp L w w') (hL : ∀ x ∈ L, ∃ t cs, Blk w x t cs ∧ 5 ≠ t) : SliceB w' v n z := by
  obtain ⟨A, cap, e, h1, h2, h3, h4, h5⟩ := h
  exact ⟨A, cap, e, h1, h2, h3.kp k (h4.off hL), h4.kp k (h4.off hL), h5⟩
theorem FD.kp {w w' : World} {g cb n : Nat} {z : Nat → Int} {t : Int} {L : List Nat} (h : FD w g cb n z t) (k : Kp L w w') (hL : ∀ x ∈ L, ∃ t cs, Blk w x t cs ∧ 5 ≠ t) (h1 : g ∉ L) (h2 : cb ∉ L) : FD w' g cb n z t := by
  obtain ⟨hb, v, hc, hs⟩ := h
  exact ⟨hb.kp k h1, v, hc.kp k h2, hs.kp k hL⟩
theorem SliceB.keep {w w' : World} {v : Value} {n : Nat} {z : Nat → Int} (h : SliceB w v n z) (k : Below w.heap.size w w') : SliceB w' v n z :=
  h.kp (L := []) (Kp.of_below k) (fun x hx => by cases hx)
theorem FD.keep {w w' : World} {g cb n : Nat} {z : Nat → Int} {t : Int} (h : FD w g cb n z t) (k : Below w.heap.size w w') : FD w' g cb n z t :=
  h.kp (L := []) (Kp.of_below k) (fun x hx => by cases hx) (by simp) (by simp)
def GiverR (n : Nat) (z : Nat → Int) (w : World) (e : Ending) (w' : World) : Prop :=
  ∃ cb v, e = .returned (.func (.func 58) #[] #[.pointer (some ⟨cb, 0, none⟩)]) ∧ w.heap.size ≤ cb ∧ Blk w' cb 44 #[v] ∧ SliceB w' v n z ∧ Below w.heap.size w w'
set_option maxHeartbeats 1000000 in
theorem giver_any {w : World} (A : Option Addr) (n c : Nat) (z : Nat → Int) (hA : A = none → n = 0 ∧ c = 0) (hm : n ≤ 140737488355328) (R : IRow w .u8 A n z) :
    Calls Try.prog 52 #[.slice A n c] w (GiverR n z w) := by
  have hmf : ∀ (fn : Fn) (first cap : Array Value) (w : World), (Instr.makeFunc fn first cap).run Try.prog w = .ok (.func fn first cap) w := fun _ _ _ _ => rfl
  have RH := Lib.hid R
  have HA := Lib.hid hA
  clear R hA
  go_enter Try.func52, Try.ntmps52
  go_wp2_with fail
  refine (sclone_any A n c z HA.out hm RH.out).mono ?_
  rintro e w1 ⟨v, rfl, ⟨A', cap, rfl, hs⟩, hb⟩
  have HS : Hid (SliceB w1 (.slice A' n cap) n z) := Lib.hid ⟨A', cap, rfl, hs⟩
  clear hs
  have sz := hb.size
  go_wp2
  go_ret
  exact ⟨w1.heap.size, .slice A' n cap, rfl, sz, Blk.new w1 _ _, HS.out.keep ((Below.refl _ _).alloc (Nat.le_refl _) _), hb.alloc sz _⟩
def NewR (n : Nat) (z : Nat → Int) (w : World) (e : Ending) (w' : World) : Prop :=
  ∃ g cb, e = .returned (.pointer (some ⟨g, 0, none⟩)) ∧ w.heap.size ≤ g ∧ w.heap.size ≤ cb ∧ g < w'.heap.size ∧ cb < w'.heap.size ∧ FD w' g cb n z 0 ∧ Below w.heap.size w w'
set_option maxHeartbeats 1000000 in
theorem new_any {w : World} (A : Option Addr) (n c : Nat) (z : Nat → Int) (hA : A = none → n = 0 ∧ c = 0) (hm : n ≤ 140737488355328) (R : IRow w .u8 A n z) :
    Calls Try.prog 42 #[.slice A n c] w (NewR n z w) := by
  have RH := Lib.hid R
  have HA := Lib.hid hA
  clear R hA
  go_enter Try.func42, Try.ntmps42
  go_wp2_with fail
  refine (giver_any A n c z HA.out hm RH.out).mono ?_
  rintro e w1 ⟨cb, v, rfl, h1, h2, h3, hb⟩
  have H2 := Lib.hid h2
  have H3 := Lib.hid h3
  clear h2 h3
  have sz := hb.size
  go_wp2
  go_ret
  have k : Below w1.heap.size w1 (w1.alloc (.cells (fcs cb 0) 73)) := (Below.refl _ _).alloc (Nat.le_refl _) _
  have q := H2.out.lt
  exact ⟨w1.heap.size, cb, rfl, sz, h1, by simp, by simp; omega, ⟨Blk.new w1 _ _, v, H2.out.alloc _, H3.out.keep k⟩, hb.alloc sz _⟩
theorem slice_any (A : Option Addr) (n c e : Nat) (he : e ≤ n) (hc : n ≤ c) (W : World) : (Instr.slice 44 (.slice A n c) (some (.int .i64 (e : Int))) none none).run Try.prog W = .ok (.slice (if c = e then A else A.map (·.add e)) (n - e) (c - e)) W := by
  have hs : (sizeOf 5).run Try.prog W = .ok 1 W := by kernel_rfl
  have he' : Try.prog.elem 44 = 5 := by kernel_rfl
  rw [run_slice_l (P := Try.prog) W 44 A n c (by rw [he']; exact Try.underlying44) .i64 e (by omega) (by omega)]
  rw [he', hs]
  simp [Result.andThen, sliced]
theorem SliceB.from_ {w : World} {A : Option Addr} {n c e : Nat} {z : Nat → Int} (h : SliceB w (.slice A n c) n z) (he : e ≤ n) (hc : n ≤ c) : SliceB w (.slice (if c = e then A else A.map (·.add e)) (n - e) (c - e)) (n - e) (fun i => z (e + i)) := by
  obtain ⟨A', c', q, h1, h2, h3, h4, h5⟩ := h
  cases q
  refine ⟨_, _, rfl, by omega, by omega, h3.from_ he hc, h4.from_ e c, fun x => ?_⟩
  split at x
  · obtain ⟨rfl, rfl⟩ := h5 x; exact ⟨by omega, by omega⟩
  · cases A with
    | none => obtain ⟨rfl, rfl⟩ := h5 rfl; exact ⟨by omega, by omega⟩
    | some a => cases x
/-- What the function that gives answers: what is left behind k more, which is kept in its block. -/
def GaveR (n k cb : Nat) (z : Nat → Int) (w : World) (e : Ending) (w' : World) : Prop :=
  ∃ A cap, e = .returned (.slice A (n - k) cap) ∧ SliceB w' (.slice A (n - k) cap) (n - k) (fun i => z (k + i)) ∧ Blk w' cb 44 #[.slice A (n - k) cap] ∧ Kp [cb] w w'
set_option maxHeartbeats 1000000 in
theorem gives_any {w : World} {cb n k : Nat} {z : Nat → Int} {v : Value} (hb : Blk w cb 44 #[v]) (hs : SliceB w v n z) (hk : k ≤ 1) :
    Calls Try.prog 58 #[.int .i64 k, .pointer (some ⟨cb, 0, none⟩)] w (GaveR n k cb z w) := by
  obtain ⟨A, cap, rfl, h1, h2, h3⟩ := hs
  have HS : Hid (SliceB w (.slice A n cap) n z) := Lib.hid ⟨A, cap, rfl, h1, h2, h3⟩
  clear h3
  unfold maxLen at h2
  have c0 := hb.cell 0
  have cf := hb.frozen 0
  simp only [List.getElem?_toArray, List.getElem?_cons_zero] at c0
  have HB := Lib.hid hb
  clear hb
  rcases Nat.lt_or_ge n k with hlt | hge
  · have hsl := fun W => slice_any A n cap n (Nat.le_refl _) h1 W
    have hq := HS.out.from_ (e := n) (Nat.le_refl _) h1
    generalize (if cap = n then A else A.map (·.add n)) = A2 at *
    have HQ := Lib.hid hq
    clear hq
    have hlt' : (n : Int) < k := by omega
    go_enter Try.func58, Try.ntmps58
    go_wp2
    go_ret
    have hz : n - k = 0 := by omega
    have hz2 : n - n = 0 := by omega
    have kp : Kp [cb] w (w.setCell ⟨cb, 0, none⟩ (.slice A2 0 (cap - n))) := (Kp.refl _ _).setCell (.inl (by simp)) _
    have hb := HB.out
    have hn : ∀ x ∈ [cb], ∃ t cs, Blk w x t cs ∧ 5 ≠ t := fun x hx => by
      obtain rfl : x = cb := by simpa using hx
      exact ⟨_, _, hb, by decide⟩
    have q := HQ.out.kp kp hn
    rw [hz2] at q
    refine ⟨A2, cap - n, by rw [hz]; rfl, ?_, ?_, kp⟩
    · rw [hz]
      obtain ⟨A', c', e, p1, p2, p3, p4, p5⟩ := q
      exact ⟨A', c', e, p1, p2, fun i hi => absurd hi (by omega), p4, p5⟩
    · rw [hz]; exact hb.set_ 0 _
  · have hsl := fun W => slice_any A n cap k hge h1 W
    have hq := HS.out.from_ hge h1
    generalize (if cap = k then A else A.map (·.add k)) = A2 at *
    have HQ := Lib.hid hq
    clear hq
    have hge' : ¬ (n : Int) < k := by omega
    go_enter Try.func58, Try.ntmps58
    go_wp2
    go_ret
    have kp : Kp [cb] w (w.setCell ⟨cb, 0, none⟩ (.slice A2 (n - k) (cap - k))) := (Kp.refl _ _).setCell (.inl (by simp)) _
    have hb := HB.out
    have hn : ∀ x ∈ [cb], ∃ t cs, Blk w x t cs ∧ 5 ≠ t := fun x hx => by
      obtain rfl : x = cb := by simpa using hx
      exact ⟨_, _, hb, by decide⟩
    exact ⟨A2, cap - k, rfl, HQ.out.kp kp hn, hb.set_ 0 _, kp⟩
end Go.Proofs.Ytbdmpgpdnnjmpaa
