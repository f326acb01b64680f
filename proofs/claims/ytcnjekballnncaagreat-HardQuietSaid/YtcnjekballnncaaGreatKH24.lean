/-
  Texts of these proofs, one behind the other: Feed2, Feed3.
-/
import Derived.Test.YtcnjekballnncaaGreatKH23
import Derived.Laws.Small
import Derived.Deep.QuietTactic
import Derived.BigQuiet
import Derived.StillTailTactics
import Derived.RegionTactic
import Derived.BigRegion
namespace Go.Proofs.YtcnjekballnncaaGreat
open Go.RowKit
set_option linter.unusedVariables false
/-- A feed of n bytes that are left, and how many were asked for; what is left stands in block cb. -/
def fcs (cb : Nat) (t : Int) : Array Value := #[.func (.func 108) #[] #[.pointer (some ⟨cb, 0, none⟩)], .int .i64 t]
def FD (w : World) (g cb n : Nat) (z : Nat → Int) (t : Int) : Prop :=
  Blk w g 87 (fcs cb t) ∧ ∃ v, Blk w cb 22 #[v] ∧ SliceB w v n z
theorem SliceB.kp {w w' : World} {v : Value} {n : Nat} {z : Nat → Int} {L : List Nat} (h : SliceB w v n z) (k : Kp L w w') (hL : ∀ x ∈ L, ∃ t cs, Blk w x t cs ∧ 5 ≠ t) : SliceB w' v n z := by
  obtain ⟨A, cap, e, h1, h2, h3, h4, h5⟩ := h
  exact ⟨A, cap, e, h1, h2, h3.kp k (h4.off hL), h4.kp k (h4.off hL), h5⟩
theorem FD.kp {w w' : World} {g cb n : Nat} {z : Nat → Int} {t : Int} {L : List Nat} (h : FD w g cb n z t) (k : Kp L w w') (hL : ∀ x ∈ L, ∃ t cs, Blk w x t cs ∧ 5 ≠ t) (h1 : g ∉ L) (h2 : cb ∉ L) : FD w' g cb n z t := by
  obtain ⟨hb, v, hc, hs⟩ := h
  exact ⟨hb.kp k h1, v, hc.kp k h2, hs.kp k hL⟩
theorem SliceB.keep {w w' : World} {v : Value} {n : Nat} {z : Nat → Int} (h : SliceB w v n z) (k : Below w.heap.size w w') : SliceB w' v n z :=
  h.kp (L := []) (Kp.of_below k) (fun x hx => by cases hx)
theorem FD.keep {w w' : World} {g cb n : Nat} {z : Nat → Int} {t : Int} (h : FD w g cb n z t) (k : Below w.heap.size w w') : FD w' g cb n z t :=
  h.kp (L := []) (Kp.of_below k) (fun x hx => by cases hx) (by simp) (by simp)
def GiverR (n : Nat) (z : Nat → Int) (w : World) (e : Ending) (w' : World) : Prop :=
  ∃ cb v, e = .returned (.func (.func 108) #[] #[.pointer (some ⟨cb, 0, none⟩)]) ∧ w.heap.size ≤ cb ∧ Blk w' cb 22 #[v] ∧ SliceB w' v n z ∧ Below w.heap.size w w'
set_option maxHeartbeats 1000000 in
theorem giver_any {w : World} (A : Option Addr) (n c : Nat) (z : Nat → Int) (hA : A = none → n = 0 ∧ c = 0) (hm : n ≤ 140737488355328) (R : IRow w .u8 A n z) :
    Calls Tryz.prog 79 #[.slice A n c] w (GiverR n z w) := by
  have hmf : ∀ (fn : Fn) (first cap : Array Value) (w : World), (Instr.makeFunc fn first cap).run Tryz.prog w = .ok (.func fn first cap) w := fun _ _ _ _ => rfl
  have RH := Lib.hid R
  have HA := Lib.hid hA
  clear R hA
  go_enter Tryz.func79, Tryz.ntmps79
  go_wp2_with fail
  refine (sclone_any A n c z HA.out hm RH.out).mono ?_
  rintro e w1 ⟨v, rfl, ⟨A', cap, rfl, hs⟩, hb⟩
  have HS : Hid (SliceB w1 (.slice A' n cap) n z) := Lib.hid ⟨A', cap, rfl, hs⟩
  clear hs
  have sz := hb.size
  go_wp2
  go_ret
  exact ⟨w1.heap.size, .slice A' n cap, rfl, sz, Blk.new w1 _ _, HS.out.keep ((Below.refl _ _).alloc (Nat.le_refl _) _), hb.alloc sz _⟩
def NewR (n : Nat) (z : Nat → Int) (w : World) (e : Ending) (w' : World) : Prop :=
  ∃ g cb, e = .returned (.pointer (some ⟨g, 0, none⟩)) ∧ w.heap.size ≤ g ∧ w.heap.size ≤ cb ∧ g < w'.heap.size ∧ cb < w'.heap.size ∧ FD w' g cb n z 0 ∧ Below w.heap.size w w'
set_option maxHeartbeats 1000000 in
theorem new_any {w : World} (A : Option Addr) (n c : Nat) (z : Nat → Int) (hA : A = none → n = 0 ∧ c = 0) (hm : n ≤ 140737488355328) (R : IRow w .u8 A n z) :
    Calls Tryz.prog 28 #[.slice A n c] w (NewR n z w) := by
  have RH := Lib.hid R
  have HA := Lib.hid hA
  clear R hA
  go_enter Tryz.func28, Tryz.ntmps28
  go_wp2_with fail
  refine (giver_any A n c z HA.out hm RH.out).mono ?_
  rintro e w1 ⟨cb, v, rfl, h1, h2, h3, hb⟩
  have H2 := Lib.hid h2
  have H3 := Lib.hid h3
  clear h2 h3
  have sz := hb.size
  go_wp2
  go_ret
  have k : Below w1.heap.size w1 (w1.alloc (.cells (fcs cb 0) 87)) := (Below.refl _ _).alloc (Nat.le_refl _) _
  have q := H2.out.lt
  exact ⟨w1.heap.size, cb, rfl, sz, h1, by simp, by simp; omega, ⟨Blk.new w1 _ _, v, H2.out.alloc _, H3.out.keep k⟩, hb.alloc sz _⟩
theorem slice_any (A : Option Addr) (n c e : Nat) (he : e ≤ n) (hc : n ≤ c) (W : World) : (Instr.slice 22 (.slice A n c) (some (.int .i64 (e : Int))) none none).run Tryz.prog W = .ok (.slice (if c = e then A else A.map (·.add e)) (n - e) (c - e)) W := by
  have hs : (sizeOf 5).run Tryz.prog W = .ok 1 W := by kernel_rfl
  have he' : Tryz.prog.elem 22 = 5 := by kernel_rfl
  rw [run_slice_l (P := Tryz.prog) W 22 A n c (by rw [he']; exact Tryz.underlying22) .i64 e (by omega) (by omega)]
  rw [he', hs]
  simp [Result.andThen, sliced]
theorem SliceB.from_ {w : World} {A : Option Addr} {n c e : Nat} {z : Nat → Int} (h : SliceB w (.slice A n c) n z) (he : e ≤ n) (hc : n ≤ c) : SliceB w (.slice (if c = e then A else A.map (·.add e)) (n - e) (c - e)) (n - e) (fun i => z (e + i)) := by
  obtain ⟨A', c', q, h1, h2, h3, h4, h5⟩ := h
  cases q
  refine ⟨_, _, rfl, by omega, by omega, h3.from_ he hc, h4.from_ e c, fun x => ?_⟩
  split at x
  · obtain ⟨rfl, rfl⟩ := h5 x; exact ⟨by omega, by omega⟩
  · cases A with
    | none => obtain ⟨rfl, rfl⟩ := h5 rfl; exact ⟨by omega, by omega⟩
    | some a => cases x
/-- What the function that gives answers: what is left behind k more, which is kept in its block. -/
def GaveR (n k cb : Nat) (z : Nat → Int) (w : World) (e : Ending) (w' : World) : Prop :=
  ∃ A cap, e = .returned (.slice A (n - k) cap) ∧ SliceB w' (.slice A (n - k) cap) (n - k) (fun i => z (k + i)) ∧ Blk w' cb 22 #[.slice A (n - k) cap] ∧ Kp [cb] w w'
set_option maxHeartbeats 1000000 in
theorem gives_any {w : World} {cb n k : Nat} {z : Nat → Int} {v : Value} (hb : Blk w cb 22 #[v]) (hs : SliceB w v n z) (hk : k ≤ 1) :
    Calls Tryz.prog 108 #[.int .i64 k, .pointer (some ⟨cb, 0, none⟩)] w (GaveR n k cb z w) := by
  obtain ⟨A, cap, rfl, h1, h2, h3⟩ := hs
  have HS : Hid (SliceB w (.slice A n cap) n z) := Lib.hid ⟨A, cap, rfl, h1, h2, h3⟩
  clear h3
  unfold maxLen at h2
  have c0 := hb.cell 0
  have cf := hb.frozen 0
  simp only [List.getElem?_toArray, List.getElem?_cons_zero] at c0
  have HB := Lib.hid hb
  clear hb
  rcases Nat.lt_or_ge n k with hlt | hge
  · have hsl := fun W => slice_any A n cap n (Nat.le_refl _) h1 W
    have hq := HS.out.from_ (e := n) (Nat.le_refl _) h1
    generalize (if cap = n then A else A.map (·.add n)) = A2 at *
    have HQ := Lib.hid hq
    clear hq
    have hlt' : (n : Int) < k := by omega
    go_enter Tryz.func108, Tryz.ntmps108
    go_wp2
    go_ret
    have hz : n - k = 0 := by omega
    have hz2 : n - n = 0 := by omega
    have kp : Kp [cb] w (w.setCell ⟨cb, 0, none⟩ (.slice A2 0 (cap - n))) := (Kp.refl _ _).setCell (.inl (by simp)) _
    have hb := HB.out
    have hn : ∀ x ∈ [cb], ∃ t cs, Blk w x t cs ∧ 5 ≠ t := fun x hx => by
      obtain rfl : x = cb := by simpa using hx
      exact ⟨_, _, hb, by decide⟩
    have q := HQ.out.kp kp hn
    rw [hz2] at q
    refine ⟨A2, cap - n, by rw [hz]; rfl, ?_, ?_, kp⟩
    · rw [hz]
      obtain ⟨A', c', e, p1, p2, p3, p4, p5⟩ := q
      exact ⟨A', c', e, p1, p2, fun i hi => absurd hi (by omega), p4, p5⟩
    · rw [hz]; exact hb.set_ 0 _
  · have hsl := fun W => slice_any A n cap k hge h1 W
    have hq := HS.out.from_ hge h1
    generalize (if cap = k then A else A.map (·.add k)) = A2 at *
    have HQ := Lib.hid hq
    clear hq
    have hge' : ¬ (n : Int) < k := by omega
    go_enter Tryz.func108, Tryz.ntmps108
    go_wp2
    go_ret
    have kp : Kp [cb] w (w.setCell ⟨cb, 0, none⟩ (.slice A2 (n - k) (cap - k))) := (Kp.refl _ _).setCell (.inl (by simp)) _
    have hb := HB.out
    have hn : ∀ x ∈ [cb], ∃ t cs, Blk w x t cs ∧ 5 ≠ t := fun x hx => by
      obtain rfl : x = cb := by simpa using hx
      exact ⟨_, _, hb, by decide⟩
    exact ⟨A2, cap - k, rfl, HQ.out.kp kp hn, hb.set_ 0 _, kp⟩
end Go.Proofs.YtcnjekballnncaaGreat
namespace Go.Proofs.YtcnjekballnncaaGreat
open Go.RowKit
set_option linter.unusedVariables false
def TookR (n k g cb : Nat) (z : Nat → Int) (t : Int) (w : World) (e : Ending) (w' : World) : Prop :=
  ∃ A cap, e = .returned (.slice A (n - k) cap) ∧ SliceB w' (.slice A (n - k) cap) (n - k) (fun i => z (k + i)) ∧ FD w' g cb (n - k) (fun i => z (k + i)) t ∧ Kp [cb] w w'
theorem run_eql_func (c : Array Value) (W : World) : (binOp .eql 85 (.func (.func 108) #[] c) .nilFunc).run Tryz.prog W = .ok (.bool false) W := by
  kernel_rfl
set_option maxRecDepth 100000 in
set_option maxHeartbeats 1000000 in
theorem take_any {w : World} {g cb n k : Nat} {z : Nat → Int} {t : Int} (h : FD w g cb n z t) (hk : k ≤ 1) :
    Calls Tryz.prog 93 #[.pointer (some ⟨g, 0, none⟩), .int .i64 k] w (TookR n k g cb z t w) := by
  obtain ⟨hg, v, hc, hs⟩ := h
  have c0 : w.cell? ⟨g, 0, none⟩ = some (.func (.func 108) #[] #[.pointer (some ⟨cb, 0, none⟩)]) := hg.cell 0
  have hfn := fun c W => run_eql_func c W
  have HG := Lib.hid hg
  have HC := Lib.hid hc
  have HS := Lib.hid hs
  clear hg hc hs
  go_enter Tryz.func93, Tryz.ntmps93
  go_wp2_with (go_at_call 108; refine (gives_any HC.out HS.out hk).mono ?_; rintro e w1 ⟨A, cap, rfl, h1, h2, h3⟩)
  go_ret
  have hg := HG.out
  have hne : g ∉ [cb] := by simpa using hg.ne_ HC.out (by decide)
  exact ⟨A, cap, rfl, h1, ⟨hg.kp h3 hne, _, h2, h1⟩, h3⟩
theorem took0 {n g cb : Nat} {z : Nat → Int} {t : Int} {w : World} {e : Ending} {w' : World} (h : TookR n 0 g cb z t w e w') :
    ∃ A cap, e = .returned (.slice A n cap) ∧ SliceB w' (.slice A n cap) n z ∧ FD w' g cb n z t ∧ Kp [cb] w w' := by
  obtain ⟨A, cap, h1, h2, h3, h4⟩ := h
  have e : (fun i => z (0 + i)) = z := by funext i; rw [Nat.zero_add]
  rw [e] at h2 h3
  exact ⟨A, cap, h1, h2, h3, h4⟩
theorem take0_any {w : World} {g cb n : Nat} {z : Nat → Int} {t : Int} (h : FD w g cb n z t) :
    Calls Tryz.prog 93 #[.pointer (some ⟨g, 0, none⟩), .int .i64 0] w fun e w' => ∃ A cap, e = .returned (.slice A n cap) ∧ SliceB w' (.slice A n cap) n z ∧ FD w' g cb n z t ∧ Kp [cb] w w' :=
  (take_any (k := 0) h (by omega)).mono fun _ _ h => took0 h
theorem take_nil (k : Int) (w : World) :
    Calls Tryz.prog 93 #[.pointer none, .int .i64 k] w fun e w' => e = .returned (.slice none 0 0) ∧ w = w' := by
  go_enter Tryz.func93, Tryz.ntmps93
  go_wp2
  go_ret
  exact ⟨rfl, rfl⟩
/-- The byte that comes so far behind the next one. -/
def peekI (n : Nat) (z : Nat → Int) (k : Int) : Int := if 0 ≤ k ∧ k < n then z k.toNat else 255
theorem peekI_no (n : Nat) (z : Nat → Int) (k : Int) (h : ¬ (0 ≤ k ∧ k < n)) : peekI n z k = 255 := by unfold peekI; rw [if_neg h]
theorem peekI_yes (n : Nat) (z : Nat → Int) (k : Nat) (h : k < n) : peekI n z k = z k := by unfold peekI; rw [if_pos (by omega)]; rfl
def FedR (v : Value) (g cb n : Nat) (z : Nat → Int) (t : Int) (L : List Nat) (w : World) (e : Ending) (w' : World) : Prop := e = .returned v ∧ FD w' g cb n z t ∧ Kp L w w'
set_option maxRecDepth 100000 in
set_option maxHeartbeats 1000000 in
theorem peek_any {w : World} {g cb n : Nat} {z : Nat → Int} {t k : Int} (h : FD w g cb n z t) :
    Calls Tryz.prog 103 #[.pointer (some ⟨g, 0, none⟩), .int .i64 k] w (FedR (.int .u8 (peekI n z k)) g cb n z t [cb] w) := by
  have H := Lib.hid h
  clear h
  by_cases h0 : k < 0
  · rw [peekI_no n z k (by omega)]
    go_enter Tryz.func103, Tryz.ntmps103
    go_wp2_with fail
    refine (take0_any H.out).mono ?_
    rintro e w1 ⟨A, cap, rfl, h1, h2, h3⟩
    have hl : n ≤ 9223372036854775807 := by obtain ⟨_, _, q, a, b, _⟩ := h1; unfold maxLen at b; omega
    have H1 := Lib.hid h1
    have HL := Lib.hid hl
    clear h1 hl
    go_wp2
    go_ret
    exact ⟨rfl, h2, h3⟩
  by_cases h1 : k < n
  · obtain ⟨j, rfl⟩ := Int.eq_ofNat_of_zero_le (by omega : 0 ≤ k)
    have hj : j < n := by omega
    rw [peekI_yes n z j hj]
    go_enter Tryz.func103, Tryz.ntmps103
    go_wp2_with fail
    refine (take0_any H.out).mono ?_
    rintro e w1 ⟨A, cap, rfl, q1, q2, q3⟩
    obtain ⟨_, _, q, a, b, R, _⟩ := q1
    cases q
    obtain ⟨ad, rfl, _, hc, _⟩ := R j hj
    have HQ := Lib.hid q2
    have HK := Lib.hid q3
    have HR := Lib.hid R
    clear q2 q3 R
    unfold maxLen at b
    go_wp2
    go_ret
    exact ⟨rfl, HQ.out, HK.out⟩
  · rw [peekI_no n z k (by omega)]
    go_enter Tryz.func103, Tryz.ntmps103
    go_wp2_with fail
    refine (take0_any H.out).mono ?_
    rintro e w1 ⟨A, cap, rfl, h1, h2, h3⟩
    have H1 := Lib.hid h1
    clear h1
    go_wp2
    go_ret
    exact ⟨rfl, h2, h3⟩
end Go.Proofs.YtcnjekballnncaaGreat
