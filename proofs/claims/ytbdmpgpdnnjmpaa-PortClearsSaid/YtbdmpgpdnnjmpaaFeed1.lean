/-
  slices.Clone of any slice of bytes: its bytes lie in memory of their own.
-/
import Derived.Test.YtbdmpgpdnnjmpaaG12
import Derived.Test.YtbdmpgpdnnjmpaaCart7
import Derived.FnLit
namespace Go.Proofs.Ytbdmpgpdnnjmpaa
open Go.RowKit
set_option linter.unusedVariables false
/-- A slice of bytes, in blocks of bytes. -/
def SliceB (w : World) (v : Value) (n : Nat) (z : Nat → Int) : Prop := ∃ A cap, v = .slice A n cap ∧ n ≤ cap ∧ cap ≤ maxLen ∧ IRow w .u8 A n z ∧ Typed w A 5 ∧ (A = none → n = 0 ∧ cap = 0)
def CloneR (n : Nat) (z : Nat → Int) (w : World) (e : Ending) (w' : World) : Prop := ∃ v, e = .returned v ∧ SliceB w' v n z ∧ Below w.heap.size w w'
set_option maxRecDepth 100000 in
theorem clone_run0 {w : World} {ad : Addr} {c : Nat} {t : TypeId} :
    ∃ A cap w', (Builtin.append_ #[44, 44] t #[.slice (some ⟨w.heap.size, 0, none⟩) 0 0, .slice (some ad) 0 c]).run Try.prog (w.alloc (.cells #[] 5)) = .ok (.slice A 0 cap) w' ∧
      cap ≤ maxLen ∧ Typed w' A 5 ∧ Below w.heap.size w w' ∧ (A = none → cap = 0) := by
  obtain ⟨i, hi, hzz⟩ := Option.map_eq_some_iff.1 u8_info'
  simp only [Prod.mk.injEq] at hzz
  obtain ⟨hz, hs, hb⟩ := hzz
  have hB0 : Below w.heap.size w (w.alloc (.cells #[] 5)) := (Below.refl _ _).alloc (Nat.le_refl _) _
  have hown0 : (w.alloc (.cells #[] 5)).ownsRow w.heap.size 5 1 (.slice (some ⟨w.heap.size, 0, none⟩) 0 0) 0 [] :=
    ⟨rfl, Or.inr ⟨w.heap.size, 0, #[], rfl, Nat.le_refl _, heap_alloc_new w _, Nat.le_refl _, by unfold maxLen; omega, rfl, rfl⟩⟩
  obtain ⟨v', w', h1, h2, h3, _, _⟩ := run_append_own_at (P := Try.prog) (w.alloc (.cells #[] 5)) w.heap.size 44 t 5 i (.int .u8 0) 1 1 Try.underlying44 hi hz hs hb rfl (by omega) _ 0 [] hown0 ad 0 c [] rfl
    (fun j u hu => by simp at hu) (by simp) (by unfold maxLen; omega) (by omega) hB0.size
  rcases h2.2 with ⟨rfl, _⟩ | ⟨g', cap', cur, rfl, hg', hh, hnc, hcm, _, _⟩
  · exact ⟨none, 0, w', h1, by unfold maxLen; omega, Typed.none, hB0.grown h3 hB0.size (fun j e => by simp [Value.ownBlock] at e; omega), fun _ => rfl⟩
  · exact ⟨_, cap', w', h1, hcm, fun a x => by cases x; exact ⟨cur, hh⟩, hB0.grown h3 hB0.size (fun j e => by simp [Value.ownBlock] at e; omega), fun h => by cases h⟩
set_option maxHeartbeats 1000000 in
theorem sclone_zero {w : World} (ad : Addr) (c : Nat) (z : Nat → Int) :
    Calls Try.prog 57 #[.slice (some ad) 0 c] w (CloneR 0 z w) := by
  have hnil := fun W => Lib.run_eql_slice_nil (P := Try.prog) W 44 5 (some ad) 0 c 0 0 Try.underlying44
  obtain ⟨A, cap, w', hrun, h1, h2, h5, h6⟩ := clone_run0 (w := w) (ad := ad) (c := c) (t := 44)
  go_enter Try.func57, Try.ntmps57
  go_wp2_with (at_builtin; refine wpList_append_run rfl (.tmp 5) (.tmp 6) 44 rfl rfl rfl hrun ?_)
  go_ret
  exact ⟨_, rfl, ⟨A, cap, rfl, Nat.zero_le _, h1, fun i hi => absurd hi (by omega), h2, fun x => ⟨rfl, h6 x⟩⟩, h5⟩
theorem sclone_nil {w : World} (z : Nat → Int) :
    Calls Try.prog 57 #[.slice none 0 0] w (CloneR 0 z w) := by
  have hnil := fun W => Lib.run_eql_slice_nil (P := Try.prog) W 44 5 none 0 0 0 0 Try.underlying44
  go_enter Try.func57, Try.ntmps57
  go_wp2
  go_ret
  exact ⟨_, rfl, ⟨none, 0, rfl, Nat.zero_le _, by unfold maxLen; omega, fun i hi => absurd hi (by omega), Typed.none, fun _ => ⟨rfl, rfl⟩⟩, Below.refl _ _⟩
theorem sclone_any {w : World} (A : Option Addr) (n c : Nat) (z : Nat → Int) (hA : A = none → n = 0 ∧ c = 0) (hm : n ≤ 140737488355328) (R : IRow w .u8 A n z) :
    Calls Try.prog 57 #[.slice A n c] w (CloneR n z w) := by
  cases A with
  | none =>
    obtain ⟨rfl, rfl⟩ := hA rfl
    exact sclone_nil z
  | some ad =>
    rcases Nat.eq_zero_or_pos n with rfl | hn
    · exact sclone_zero ad c z
    · refine (clone_any ad n c z hn hm R).mono ?_
      rintro e w' ⟨⟨g, cap, rfl, h1, h2, h3, C, hC⟩, hb⟩
      exact ⟨_, rfl, ⟨some ⟨g, 0, none⟩, cap, rfl, h1, h2, h3, fun a x => by cases x; exact ⟨C, hC⟩, fun x => by cases x⟩, hb⟩
end Go.Proofs.Ytbdmpgpdnnjmpaa
