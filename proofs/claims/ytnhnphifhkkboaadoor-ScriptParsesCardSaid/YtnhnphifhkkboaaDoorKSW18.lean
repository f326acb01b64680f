/-
  Texts of these proofs, one behind the other: Cart7, Feed1, Feed2.
-/
import Derived.Test.YtnhnphifhkkboaaDoorKSW01
import Derived.Test.YtnhnphifhkkboaaDoorKSW13
import Derived.Test.YtnhnphifhkkboaaDoorKSW03
import Derived.Deep.AppendLies
import Derived.Laws.CopyRow
import Derived.FnLit
import Derived.Laws.Small
namespace Go.Proofs.YtnhnphifhkkboaaDoor
open Go.RowKit
set_option linter.unusedVariables false
theorem u8_info' : (Tryd.prog.info? 5).map (fun i => (i.zero, i.size, i.bytes)) = some (some (.int .u8 0), 1, 1) := by kernel_rfl
set_option maxRecDepth 100000 in
/-- Behind a new row of no bytes those of a slice that came in, one at least. -/
theorem clone_run {w : World} {ad : Addr} {n c : Nat} {z : Nat → Int} {t : TypeId} (hn : 0 < n) (hm : n ≤ 140737488355328) (R : IRow w .u8 (some ad) n z) :
    ∃ g cap w', (Builtin.append_ #[22, 22] t #[.slice (some ⟨w.heap.size, 0, none⟩) 0 0, .slice (some ad) n c]).run Tryd.prog (w.alloc (.cells #[] 5)) = .ok (.slice (some ⟨g, 0, none⟩) n cap) w' ∧
      n ≤ cap ∧ cap ≤ maxLen ∧ IRow w' .u8 (some ⟨g, 0, none⟩) n z ∧ (∃ C, Blk w' g 5 C) ∧ Below w.heap.size w w' := by
  obtain ⟨i, hi, hzz⟩ := Option.map_eq_some_iff.1 u8_info'
  simp only [Prod.mk.injEq] at hzz
  obtain ⟨hz, hs, hb⟩ := hzz
  have hB0 : Below w.heap.size w (w.alloc (.cells #[] 5)) := (Below.refl _ _).alloc (Nat.le_refl _) _
  have R0 := R.keep hB0
  have hown0 : (w.alloc (.cells #[] 5)).ownsRow w.heap.size 5 1 (.slice (some ⟨w.heap.size, 0, none⟩) 0 0) 0 [] :=
    ⟨rfl, Or.inr ⟨w.heap.size, 0, #[], rfl, Nat.le_refl _, heap_alloc_new w _, Nat.le_refl _, by unfold maxLen; omega, rfl, rfl⟩⟩
  obtain ⟨v', w', h1, h2, h3, _, _⟩ := run_append_own_at (P := Tryd.prog) (w.alloc (.cells #[] 5)) w.heap.size 22 t 5 i (.int .u8 0) 1 1 Tryd.underlying22 hi hz hs hb rfl (by omega) _ 0 [] hown0 ad n c (bytesOf z n) (by rw [bytesOf_len]; omega)
    (fun j u hu => by
      have hj : j < n := by have := (List.getElem?_eq_some_iff.1 hu).1; rwa [bytesOf_len] at this
      rw [bytesOf_at z n j hj] at hu
      injection hu with hu
      subst hu
      obtain ⟨ae, e, _, hc, _⟩ := R0 j hj
      injection e with e
      subst e
      exact hc)
    (bytesOf_one z n) (by unfold maxLen; omega) (by omega) hB0.size
  rw [Nat.zero_add, List.nil_append] at h2
  obtain ⟨g, cap, rfl, hg, hlt⟩ := h2.form hn
  rcases h2.2 with ⟨h, _⟩ | ⟨g', cap', cur, he, hg', hh, hnc, hcm, _, _⟩
  · cases h
  · injection he with e1 e2 e3
    subst e3
    refine ⟨g, cap, w', h1, hnc, hcm, fun k hk => ⟨_, rfl, hlt, ?_, ?_⟩, ⟨cur, by rw [Option.some.injEq, Addr.mk.injEq] at e1; rw [e1.1]; exact hh⟩, hB0.grown h3 hB0.size (fun j e => by simp [Value.ownBlock] at e; omega)⟩
    · exact h2.cells (g := g) rfl k _ (bytesOf_at z n k hk)
    · obtain ⟨_, _, _, _, hw⟩ := R k hk
      exact hw
set_option maxHeartbeats 1000000 in
theorem clone_any {w : World} (ad : Addr) (n c : Nat) (z : Nat → Int) (hn : 0 < n) (hm : n ≤ 140737488355328) (R : IRow w .u8 (some ad) n z) :
    Calls Tryd.prog 43 #[.slice (some ad) n c] w fun e w' => (∃ g cap, e = .returned (.slice (some ⟨g, 0, none⟩) n cap) ∧ n ≤ cap ∧ cap ≤ maxLen ∧ IRow w' .u8 (some ⟨g, 0, none⟩) n z ∧ ∃ C, Blk w' g 5 C) ∧ Below w.heap.size w w' := by
  have hnil := fun W => Lib.run_eql_slice_nil (P := Tryd.prog) W 22 5 (some ad) n c 0 0 Tryd.underlying22
  obtain ⟨g, cap, w', hrun, h1, h2, h3, h4, h5⟩ := clone_run (t := 22) (c := c) hn hm R
  have H3 := Lib.hid h3
  clear h3 R
  go_enter Tryd.func43, Tryd.ntmps43
  go_wp2_with (at_builtin; refine wpList_append_run rfl (.tmp 5) (.tmp 6) 22 rfl rfl rfl hrun ?_)
  go_ret
  exact ⟨⟨g, cap, rfl, h1, h2, H3.out, h4⟩, h5⟩
end Go.Proofs.YtnhnphifhkkboaaDoor
namespace Go.Proofs.YtnhnphifhkkboaaDoor
open Go.RowKit
set_option linter.unusedVariables false
/-- A slice of bytes, in blocks of bytes that are older than block cb. -/
def SliceB (w : World) (cb : Nat) (v : Value) (n : Nat) (z : Nat → Int) : Prop := ∃ A cap, v = .slice A n cap ∧ n ≤ cap ∧ cap ≤ maxLen ∧ IRow w .u8 A n z ∧ Typed w A 5 ∧ (A = none → n = 0 ∧ cap = 0) ∧ ∀ ad, A = some ad → ad.block < cb
theorem Typed.old {w : World} {A : Option Addr} {e : TypeId} (h : Typed w A e) : ∀ ad, A = some ad → ad.block < w.heap.size := fun ad x => by
  obtain ⟨C, hC⟩ := h ad x
  exact hC.lt
def CloneR (n : Nat) (z : Nat → Int) (w : World) (e : Ending) (w' : World) : Prop := ∃ v, e = .returned v ∧ SliceB w' w'.heap.size v n z ∧ Below w.heap.size w w'
set_option maxRecDepth 100000 in
theorem clone_run0 {w : World} {ad : Addr} {c : Nat} {t : TypeId} :
    ∃ A cap w', (Builtin.append_ #[22, 22] t #[.slice (some ⟨w.heap.size, 0, none⟩) 0 0, .slice (some ad) 0 c]).run Tryd.prog (w.alloc (.cells #[] 5)) = .ok (.slice A 0 cap) w' ∧
      cap ≤ maxLen ∧ Typed w' A 5 ∧ Below w.heap.size w w' ∧ (A = none → cap = 0) := by
  obtain ⟨i, hi, hzz⟩ := Option.map_eq_some_iff.1 u8_info'
  simp only [Prod.mk.injEq] at hzz
  obtain ⟨hz, hs, hb⟩ := hzz
  have hB0 : Below w.heap.size w (w.alloc (.cells #[] 5)) := (Below.refl _ _).alloc (Nat.le_refl _) _
  have hown0 : (w.alloc (.cells #[] 5)).ownsRow w.heap.size 5 1 (.slice (some ⟨w.heap.size, 0, none⟩) 0 0) 0 [] :=
    ⟨rfl, Or.inr ⟨w.heap.size, 0, #[], rfl, Nat.le_refl _, heap_alloc_new w _, Nat.le_refl _, by unfold maxLen; omega, rfl, rfl⟩⟩
  obtain ⟨v', w', h1, h2, h3, _, _⟩ := run_append_own_at (P := Tryd.prog) (w.alloc (.cells #[] 5)) w.heap.size 22 t 5 i (.int .u8 0) 1 1 Tryd.underlying22 hi hz hs hb rfl (by omega) _ 0 [] hown0 ad 0 c [] rfl
    (fun j u hu => by simp at hu) (by simp) (by unfold maxLen; omega) (by omega) hB0.size
  rcases h2.2 with ⟨rfl, _⟩ | ⟨g', cap', cur, rfl, hg', hh, hnc, hcm, _, _⟩
  · exact ⟨none, 0, w', h1, by unfold maxLen; omega, Typed.none, hB0.grown h3 hB0.size (fun j e => by simp [Value.ownBlock] at e; omega), fun _ => rfl⟩
  · exact ⟨_, cap', w', h1, hcm, fun a x => by cases x; exact ⟨cur, hh⟩, hB0.grown h3 hB0.size (fun j e => by simp [Value.ownBlock] at e; omega), fun h => by cases h⟩
set_option maxHeartbeats 1000000 in
theorem sclone_zero {w : World} (ad : Addr) (c : Nat) (z : Nat → Int) :
    Calls Tryd.prog 43 #[.slice (some ad) 0 c] w (CloneR 0 z w) := by
  have hnil := fun W => Lib.run_eql_slice_nil (P := Tryd.prog) W 22 5 (some ad) 0 c 0 0 Tryd.underlying22
  obtain ⟨A, cap, w', hrun, h1, h2, h5, h6⟩ := clone_run0 (w := w) (ad := ad) (c := c) (t := 22)
  go_enter Tryd.func43, Tryd.ntmps43
  go_wp2_with (at_builtin; refine wpList_append_run rfl (.tmp 5) (.tmp 6) 22 rfl rfl rfl hrun ?_)
  go_ret
  exact ⟨_, rfl, ⟨A, cap, rfl, Nat.zero_le _, h1, fun i hi => absurd hi (by omega), h2, fun x => ⟨rfl, h6 x⟩, h2.old⟩, h5⟩
theorem sclone_nil {w : World} (z : Nat → Int) :
    Calls Tryd.prog 43 #[.slice none 0 0] w (CloneR 0 z w) := by
  have hnil := fun W => Lib.run_eql_slice_nil (P := Tryd.prog) W 22 5 none 0 0 0 0 Tryd.underlying22
  go_enter Tryd.func43, Tryd.ntmps43
  go_wp2
  go_ret
  exact ⟨_, rfl, ⟨none, 0, rfl, Nat.zero_le _, by unfold maxLen; omega, fun i hi => absurd hi (by omega), Typed.none, fun _ => ⟨rfl, rfl⟩, (fun ad x => by cases x)⟩, Below.refl _ _⟩
theorem sclone_any {w : World} (A : Option Addr) (n c : Nat) (z : Nat → Int) (hA : A = none → n = 0 ∧ c = 0) (hm : n ≤ 140737488355328) (R : IRow w .u8 A n z) :
    Calls Tryd.prog 43 #[.slice A n c] w (CloneR n z w) := by
  cases A with
  | none =>
    obtain ⟨rfl, rfl⟩ := hA rfl
    exact sclone_nil z
  | some ad =>
    rcases Nat.eq_zero_or_pos n with rfl | hn
    · exact sclone_zero ad c z
    · refine (clone_any ad n c z hn hm R).mono ?_
      rintro e w' ⟨⟨g, cap, rfl, h1, h2, h3, C, hC⟩, hb⟩
      exact ⟨_, rfl, ⟨some ⟨g, 0, none⟩, cap, rfl, h1, h2, h3, fun a x => by cases x; exact ⟨C, hC⟩, (fun x => by cases x), (fun a x => by cases x; exact hC.lt)⟩, hb⟩
end Go.Proofs.YtnhnphifhkkboaaDoor
namespace Go.Proofs.YtnhnphifhkkboaaDoor
open Go.RowKit
set_option linter.unusedVariables false
theorem SliceB.kp {w w' : World} {cb : Nat} {v : Value} {n : Nat} {z : Nat → Int} {L : List Nat} (h : SliceB w cb v n z) (k : Kp L w w') (hL : ∀ x ∈ L, ∃ t cs, Blk w x t cs ∧ 5 ≠ t) : SliceB w' cb v n z := by
  obtain ⟨A, cap, e, h1, h2, h3, h4, h5⟩ := h
  exact ⟨A, cap, e, h1, h2, h3.kp k (h4.off hL), h4.kp k (h4.off hL), h5⟩
theorem SliceB.keep {w w' : World} {cb : Nat} {v : Value} {n : Nat} {z : Nat → Int} (h : SliceB w cb v n z) (k : Below w.heap.size w w') : SliceB w' cb v n z :=
  h.kp (L := []) (Kp.of_below k) (fun x hx => by cases hx)
theorem slice_any (A : Option Addr) (n c e : Nat) (he : e ≤ n) (hc : n ≤ c) (W : World) : (Instr.slice 22 (.slice A n c) (some (.int .i64 (e : Int))) none none).run Tryd.prog W = .ok (.slice (if c = e then A else A.map (·.add e)) (n - e) (c - e)) W := by
  have hs : (sizeOf 5).run Tryd.prog W = .ok 1 W := by kernel_rfl
  have he' : Tryd.prog.elem 22 = 5 := by kernel_rfl
  rw [run_slice_l (P := Tryd.prog) W 22 A n c (by rw [he']; exact Tryd.underlying22) .i64 e (by omega) (by omega)]
  rw [he', hs]
  simp [Result.andThen, sliced]
theorem SliceB.from_ {w : World} {cb : Nat} {A : Option Addr} {n c e : Nat} {z : Nat → Int} (h : SliceB w cb (.slice A n c) n z) (he : e ≤ n) (hc : n ≤ c) : SliceB w cb (.slice (if c = e then A else A.map (·.add e)) (n - e) (c - e)) (n - e) (fun i => z (e + i)) := by
  obtain ⟨A', c', q, h1, h2, h3, h4, h5⟩ := h
  cases q
  refine ⟨_, _, rfl, by omega, by omega, h3.from_ he hc, h4.from_ e c, fun x => ?_, fun ad x => ?_⟩
  · split at x
    · obtain ⟨rfl, rfl⟩ := h5.1 x; exact ⟨by omega, by omega⟩
    · cases A with
      | none => obtain ⟨rfl, rfl⟩ := h5.1 rfl; exact ⟨by omega, by omega⟩
      | some a => cases x
  · split at x
    · exact h5.2 ad x
    · cases A with
      | none => cases x
      | some a =>
        simp only [Option.map_some, Option.some.injEq] at x
        rw [← x, block_of_add]
        exact h5.2 a rfl
/-- What the function that gives answers: what is left behind k more, which is kept in its block. -/
def GaveR (n k cb : Nat) (z : Nat → Int) (w : World) (e : Ending) (w' : World) : Prop :=
  ∃ A cap, e = .returned (.slice A (n - k) cap) ∧ SliceB w' cb (.slice A (n - k) cap) (n - k) (fun i => z (k + i)) ∧ Blk w' cb 22 #[.slice A (n - k) cap] ∧ Kp [cb] w w'
end Go.Proofs.YtnhnphifhkkboaaDoor
