/-
  What slices.Clone of bytes answers: they lie in memory of their own.
-/
import Derived.Test.YtndhkdcdhpfajaaDoorBy
import Derived.Test.YtndhkdcdhpfajaaDoorG9
import Derived.Test.YtndhkdcdhpfajaaDoorG12
import Derived.Test.YtndhkdcdhpfajaaDoorA1
import Derived.Deep.AppendLies
import Derived.Laws.CopyRow
namespace Go.Proofs.YtndhkdcdhpfajaaDoor
open Go.RowKit
set_option linter.unusedVariables false
theorem u8_info' : (Tryd.prog.info? 5).map (fun i => (i.zero, i.size, i.bytes)) = some (some (.int .u8 0), 1, 1) := by kernel_rfl
set_option maxRecDepth 100000 in
/-- Behind a new row of no bytes those of a slice that came in, one at least. -/
theorem clone_run {w : World} {ad : Addr} {n c : Nat} {z : Nat → Int} {t : TypeId} (hn : 0 < n) (hm : n ≤ 140737488355328) (R : IRow w .u8 (some ad) n z) :
    ∃ g cap w', (Builtin.append_ #[24, 24] t #[.slice (some ⟨w.heap.size, 0, none⟩) 0 0, .slice (some ad) n c]).run Tryd.prog (w.alloc (.cells #[] 5)) = .ok (.slice (some ⟨g, 0, none⟩) n cap) w' ∧
      n ≤ cap ∧ cap ≤ maxLen ∧ IRow w' .u8 (some ⟨g, 0, none⟩) n z ∧ (∃ C, Blk w' g 5 C) ∧ Below w.heap.size w w' := by
  obtain ⟨i, hi, hzz⟩ := Option.map_eq_some_iff.1 u8_info'
  simp only [Prod.mk.injEq] at hzz
  obtain ⟨hz, hs, hb⟩ := hzz
  have hB0 : Below w.heap.size w (w.alloc (.cells #[] 5)) := (Below.refl _ _).alloc (Nat.le_refl _) _
  have R0 := R.keep hB0
  have hown0 : (w.alloc (.cells #[] 5)).ownsRow w.heap.size 5 1 (.slice (some ⟨w.heap.size, 0, none⟩) 0 0) 0 [] :=
    ⟨rfl, Or.inr ⟨w.heap.size, 0, #[], rfl, Nat.le_refl _, heap_alloc_new w _, Nat.le_refl _, by unfold maxLen; omega, rfl, rfl⟩⟩
  obtain ⟨v', w', h1, h2, h3, _, _⟩ := run_append_own_at (P := Tryd.prog) (w.alloc (.cells #[] 5)) w.heap.size 24 t 5 i (.int .u8 0) 1 1 Tryd.underlying24 hi hz hs hb rfl (by omega) _ 0 [] hown0 ad n c (bytesOf z n) (by rw [bytesOf_len]; omega)
    (fun j u hu => by
      have hj : j < n := by have := (List.getElem?_eq_some_iff.1 hu).1; rwa [bytesOf_len] at this
      rw [bytesOf_at z n j hj] at hu
      injection hu with hu
      subst hu
      obtain ⟨ae, e, _, hc, _⟩ := R0 j hj
      injection e with e
      subst e
      exact hc)
    (bytesOf_one z n) (by unfold maxLen; omega) (by omega) hB0.size
  rw [Nat.zero_add, List.nil_append] at h2
  obtain ⟨g, cap, rfl, hg, hlt⟩ := h2.form hn
  rcases h2.2 with ⟨h, _⟩ | ⟨g', cap', cur, he, hg', hh, hnc, hcm, _, _⟩
  · cases h
  · injection he with e1 e2 e3
    subst e3
    refine ⟨g, cap, w', h1, hnc, hcm, fun k hk => ⟨_, rfl, hlt, ?_, ?_⟩, ⟨cur, by rw [Option.some.injEq, Addr.mk.injEq] at e1; rw [e1.1]; exact hh⟩, hB0.grown h3 hB0.size (fun j e => by simp [Value.ownBlock] at e; omega)⟩
    · exact h2.cells (g := g) rfl k _ (bytesOf_at z n k hk)
    · obtain ⟨_, _, _, _, hw⟩ := R k hk
      exact hw
set_option maxHeartbeats 1000000 in
theorem clone_any {w : World} (ad : Addr) (n c : Nat) (z : Nat → Int) (hn : 0 < n) (hm : n ≤ 140737488355328) (R : IRow w .u8 (some ad) n z) :
    Calls Tryd.prog 24 #[.slice (some ad) n c] w fun e w' => (∃ g cap, e = .returned (.slice (some ⟨g, 0, none⟩) n cap) ∧ n ≤ cap ∧ cap ≤ maxLen ∧ IRow w' .u8 (some ⟨g, 0, none⟩) n z ∧ ∃ C, Blk w' g 5 C) ∧ Below w.heap.size w w' := by
  have hnil := fun W => Lib.run_eql_slice_nil (P := Tryd.prog) W 24 5 (some ad) n c 0 0 Tryd.underlying24
  obtain ⟨g, cap, w', hrun, h1, h2, h3, h4, h5⟩ := clone_run (t := 24) (c := c) hn hm R
  have H3 := Lib.hid h3
  clear h3 R
  go_enter Tryd.func24, Tryd.ntmps24
  go_wp2_with (at_builtin; refine wpList_append_run rfl (.tmp 5) (.tmp 6) 24 rfl rfl rfl hrun ?_)
  go_ret
  exact ⟨⟨g, cap, rfl, h1, h2, H3.out, h4⟩, h5⟩
end Go.Proofs.YtndhkdcdhpfajaaDoor
