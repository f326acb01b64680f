/-
  Work memory: a clone of it.
-/
import Derived.Test.YtfhndajhlpakoaaRam3
import Derived.Shelf.SlMaps.Clone
namespace Go.Proofs.Ytfhndajhlpakoaa
open Go.RowKit Go.Shelf Go.Proofs
set_option linter.unusedVariables false
set_option linter.unusedSimpArgs false
set_option maxRecDepth 100000
set_option maxHeartbeats 2000000 in
theorem mclone_any (b : Nat) (es : Array MapEntry) (clock : Nat) (w : World) (hb : w.heap[b]? = some (.map es clock)) :
    Calls Try.prog 50 #[.map (some b)] w fun e w' => e = .returned (.map (some w.heap.size)) ∧ w' = w.alloc (.map es clock) := by
  have hq := fun w => run_eql_map_nil_sl (P := Try.prog) w 89 _ _ (some b) Try.underlying89
  go_enter Try.func50, Try.ntmps50
  go_wp2
  rw [run_callFunc_extern Try.func71 (by kernel_rfl) (by kernel_rfl) (by kernel_rfl) (e := Extern.MapsClone.clone) (by kernel_rfl), run_maps_clone_sl w 89 hb]
  simp only [Result.andThen]
  rw [Oper.upon_value]
  go_wp2
  rw [run_typeAssert_map_sl _ 89 20 _ _ _ Try.underlying89]
  simp only [Result.andThen]
  rw [Oper.upon_value]
  go_wp2
  go_ret
  exact ⟨rfl, rfl⟩
set_option maxHeartbeats 2000000 in
theorem mclone_nil (w : World) :
    Calls Try.prog 50 #[.map none] w fun e w' => e = .returned (.map none) ∧ w' = w := by
  have hq := fun w => run_eql_map_nil_sl (P := Try.prog) w 89 _ _ none Try.underlying89
  go_enter Try.func50, Try.ntmps50
  go_wp2
  go_ret
  exact ⟨rfl, rfl⟩
def CloneM (g : Nat) (mb : Option Nat) (f : Nat → Int) (w : World) (e : Ending) (w' : World) : Prop :=
  ∃ g2 mb2, e = .returned (.pointer (some ⟨g2, 0, none⟩)) ∧ w.heap.size ≤ g2 ∧ (∀ b, mb2 = some b → w.heap.size ≤ b) ∧ RD w' g2 mb2 f ∧ RD w' g mb f ∧ Below w.heap.size w w'
set_option maxHeartbeats 2000000 in
theorem rclone_any {w : World} {g : Nat} {mb : Option Nat} {f : Nat → Int} (h : RD w g mb f) :
    Calls Try.prog 18 #[.pointer (some ⟨g, 0, none⟩)] w (CloneM g mb f w) := by
  have HH := Lib.hid h
  have c0 : w.cell? ⟨g, 0, none⟩ = some (.map mb) := h.1.cell 0
  cases mb with
  | none =>
    clear h
    go_enter Try.func18, Try.ntmps18
    go_wp2_with fail
    refine (mclone_nil _).mono ?_
    rintro e w' ⟨rfl, rfl⟩
    go_wp2_with fail
    go_ret
    have kB : Below w'.heap.size w' (w'.alloc (.cells #[.map none] 92)) := (Below.refl _ _).alloc (Nat.le_refl _) _
    exact ⟨w'.heap.size, none, rfl, Nat.le_refl _, (fun b e => by cases e), ⟨Blk.new _ _ _, HH.out.2⟩, HH.out.keep kB, kB⟩
  | some b =>
    obtain ⟨D, ho, hv⟩ := h.2
    have hl := ho.lt
    obtain ⟨es, clock, hb, F, hs, hD⟩ := ho
    have kA : Below w.heap.size w (w.alloc (.map es clock)) := (Below.refl _ _).alloc (Nat.le_refl _) _
    have ho2 : (w.alloc (.map es clock)).ownsMap Try.prog 3 RH w.heap.size 128 D := ⟨es, clock, heap_alloc_new w _, F, hs, hD⟩
    have HO2 := Lib.hid ho2
    have HV := Lib.hid hv
    have HKA := Lib.hid kA
    clear h F hs hD ho2 hv kA
    go_enter Try.func18, Try.ntmps18
    go_wp2_with fail
    refine (mclone_any b es clock _ hb).mono ?_
    rintro e w' ⟨rfl, rfl⟩
    clear hb
    go_wp2_with fail
    go_ret
    have hs : (w.alloc (.map es clock)).heap.size = w.heap.size + 1 := by simp
    have kB : Below (w.alloc (.map es clock)).heap.size (w.alloc (.map es clock)) ((w.alloc (.map es clock)).alloc (.cells #[.map (some w.heap.size)] 92)) := (Below.refl _ _).alloc (Nat.le_refl _) _
    have kC := HKA.out.trans (kB.mono (by omega))
    refine ⟨w.heap.size + 1, some w.heap.size, rfl, by omega, (fun b e => by cases e; exact Nat.le_refl _), ⟨Blk.new_ (by simp), D, ?_, HV.out⟩, HH.out.keep kC, kC⟩
    exact owns_kp HO2.out (L := []) (Kp.of_below kB) (by simp)
end Go.Proofs.Ytfhndajhlpakoaa
