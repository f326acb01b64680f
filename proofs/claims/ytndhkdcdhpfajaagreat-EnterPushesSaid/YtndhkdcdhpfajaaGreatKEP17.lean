/-
  Texts of these proofs, one behind the other: Irq6.
-/
import Derived.Test.YtndhkdcdhpfajaaGreatKEP16
namespace Go.Proofs.YtndhkdcdhpfajaaGreat
open Go.RowKit Go.Shelf
set_option linter.unusedVariables false
set_option linter.unusedSimpArgs false
set_option maxRecDepth 100000
attribute [local go_sem] Oper.semAt_some
/-- The bits of so many kinds. -/
def stI (l : List (Fin 6)) : Int := l.foldl (fun b x => withI b (kbI x.val) true) 0
theorem stI_snoc (l : List (Fin 6)) (x : Fin 6) : stI (l ++ [x]) = withI (stI l) (kbI x.val) true := by simp [stI]
section
variable {w W : World} {p : Option Addr} {t : Bool}
set_option maxHeartbeats 4000000 in
theorem status_of (ht : ∀ w : World, Below W.heap.size W w → Calls Tryz.prog 113 #[.pointer p] w fun e w' => e = .returned (.bool t) ∧ w = w') (hw : Below W.heap.size W w) (u2 u3 : Bool) :
    Calls Tryz.prog 205 #[.pointer p, .bool u2, .bool u3] w fun e w' => e = .returned (.int .u8 (stI (askL (askF false false t u2 u3) 6))) ∧ Below w.heap.size w w' := by
  refine (callsIn_wide (n := 6)).1 ?_
  refine callsIn_of_wp_marks Tryz.func205 rfl trivial ?_ rfl
  simp only [Tryz.ntmps205, List.size_toArray, List.length_cons, List.length_nil, Nat.reduceAdd, Nat.reduceSub, Array.replicate_succ, Array.replicate_zero, List.push_toArray, List.append_toArray, List.nil_append, List.cons_append]
  gi_wp2
  refine ⟨trivial, callsIn_wide.2 ?_⟩
  have hB4 : Below w.heap.size w (w.alloc (.cells #[.int .u8 0] 5)) := (Below.refl _ w).alloc (Nat.le_refl _) _
  have b0 : Blk (w.alloc (.cells #[.int .u8 0] 5)) w.heap.size 5 #[.int .u8 0] := Blk.new w _ _
  have s4 : (w.alloc (.cells #[.int .u8 0] 5)).heap.size = w.heap.size + 1 := by simp
  generalize World.alloc _ _ = w4 at *
  refine (asking_of ht (hw.trans (hB4.mono hw.size)) false false u2 u3).mono ?_
  rintro e w5 ⟨bn, rfl, hbn, hle, hB5⟩
  have B5 := hB4.trans (hB5.mono hB4.size)
  replace b0 := b0.below hB5 b0.lt
  have s5 := hB5.size
  generalize hf : askF false false t u2 u3 = f at *
  unfold askV
  gi_wp2
  refine wpIn_rangeFunc_ownF rfl (by omega) (gf := 176) (lb := #[.pointer (some ⟨bn, 0, none⟩)]) rfl trivial (enters_of Tryz.func176 (by kernel_rfl) rfl)
    (ask_stops 5 (by omega) bn f w5 hbn) (fun _ _ => trivial) (fun _ _ _ _ _ _ _ _ => trivial) (Below.refl _ _) (fun _ => rfl)
    (fun pre W1 => Blk W1 w.heap.size 5 #[.int .u8 (stI pre)] ∧ Below w.heap.size w W1)
    (fun c pre W1 => False ∧ Below w.heap.size w W1)
    (OwnFrom.and (I := fun pre W1 => Blk W1 w.heap.size 5 #[.int .u8 (stI pre)]) (fun s A B row hs hg hr => blk_own hs hg (fun r e => (hr r e).2)) (ownFrom_below (Nat.le_refl _) (by omega)))
    (fun c => OwnFrom.and (I := fun _ _ => False) (fun _ _ _ _ hs _ _ => hs) (ownFrom_below (Nat.le_refl _) (by omega)))
    ⟨b0, B5⟩
    (fun x => { tmps := #[.pointer p, .bool u2, .bool u3, undef, undef, undef, .int .u8 0, .pointer (some ⟨w.heap.size, 0, none⟩), .int .u8 (x.val : Int), .pointer p, .bool u2, .bool u3, .agg #[.bool false, .bool false, .bool u2, .bool u3], .func (.func 176) #[] #[.pointer (some ⟨bn, 0, none⟩)], .int .u8 (x.val : Int), undef, undef, undef, undef, undef], defers := [] }) ?assign ?body ?done ?stop
  case assign =>
    intro l x W1 K hK
    gi_wp2
    exact hK
  case body =>
    rintro l pre x W1 ⟨h0, hB⟩ _
    have c0 : W1.cell? ⟨w.heap.size, 0, none⟩ = some (.int .u8 (stI pre)) := h0.cell 0
    have f0 := h0.frozen 0
    have hsn := stI_snoc pre x
    generalize hv : stI pre = v at *
    generalize hx : (x.val : Int) = xi at *
    have x0 : 0 ≤ xi := by omega
    have x1 : xi ≤ 255 := by have := x.isLt; omega
    have H0 := Lib.hid h0
    have HS := Lib.hid hsn
    clear h0 hv hsn hx
    have hmx : Tryz.prog.follows .mixedOrders = true := by kernel_rfl
    gi_wp2
    gi_region_with_o (refine ⟨trivial, ?_⟩; first | (gi_at_call 177; refine (CallsIn.inRound l (callsIn_wide.2 (kbit_any _ _ x0 x1))).mono ?_; rintro e w' ⟨rfl, rfl⟩) | (gi_at_call 210; refine (CallsIn.inRound l (callsIn_wide.2 (with_any _ _ _ _))).mono ?_; rintro e w' ⟨rfl, rfl⟩))
    all_goals gi_wp2
    all_goals exact ⟨(KeepsOthers.setCell _ _ _).trans (KeepsOthers.drew _), trivial, by rw [HS.out]; exact H0.out.set_ 0 _, (hB.setCell (p := ⟨w.heap.size, 0, none⟩) (by simp) _).drew⟩
  case done =>
    rintro D xs W1 hD rfl ⟨h0, hB⟩ hK
    have c0 : W1.cell? ⟨w.heap.size, 0, none⟩ = some (.int .u8 (stI (askL f 6))) := h0.cell 0
    gi_wp2
    refine ⟨by simp, .inl ⟨_, _, rfl, run_takeDeferred hK, ?_⟩⟩
    exact ⟨_, results_tmp rfl _ _ _, by rw [hf]; rfl, hB.trans (belowK_b (w := w) (Nat.le_refl _) W1 D _ _ (by omega) hK rfl rfl)⟩
  case stop =>
    rintro D c pre W1 hD _ h _
    exact h.1.elim
end
end Go.Proofs.YtndhkdcdhpfajaaGreat
