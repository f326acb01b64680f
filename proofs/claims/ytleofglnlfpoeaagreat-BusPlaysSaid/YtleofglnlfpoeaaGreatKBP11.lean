/-
  Texts of these proofs, one behind the other: Irq5, Irq6, A2.
-/
import Derived.Test.YtleofglnlfpoeaaGreatKBP10
import Derived.Test.YtleofglnlfpoeaaGreatKBP09
import Derived.Handy
namespace Go.Proofs.YtleofglnlfpoeaaGreat
open Go.RowKit Go.Shelf
set_option linter.unusedVariables false
set_option linter.unusedSimpArgs false
set_option maxRecDepth 100000
attribute [local go_sem] Oper.semAt_some
/-- The first of those that may come. -/
def firstB (d : Int) (m : Bool) : List (Fin 6) → Int
  | [] => 0
  | x :: r => if barI d x.val m = true then firstB d m r else x.val
theorem firstB_pre {d : Int} {m : Bool} {q r : List (Fin 6)} {x : Fin 6} (h : ∀ y ∈ q, barI d y.val m = true) (hx : barI d x.val m = false) : firstB d m (q ++ [x] ++ r) = x.val := by
  induction q with
  | nil => simp [firstB, hx]
  | cons y q ih =>
    simp only [List.cons_append, firstB]
    rw [if_pos (h y (by simp))]
    exact ih (fun z hz => h z (by simp [hz]))
theorem firstB_all {d : Int} {m : Bool} {q : List (Fin 6)} (h : ∀ y ∈ q, barI d y.val m = true) : firstB d m q = 0 := by
  induction q with
  | nil => rfl
  | cons y q ih =>
    simp only [firstB]
    rw [if_pos (h y (by simp))]
    exact ih (fun z hz => h z (by simp [hz]))
theorem blk_own {W W' : World} {g : Nat} {t : TypeId} {cs : Array Value} {row : Option Nat} (h : Blk W g t cs) (hg : W.grownBy W' row) (hr : ∀ r, row = some r → ∃ o : Obj, W.heap[r]? = some o ∧ o.isCells = false) : Blk W' g t cs :=
  h.grown hg fun e => by
    obtain ⟨o, ho, hc⟩ := hr g e.symm
    have h' : W.heap[g]? = some (Obj.cells cs t (0, 0)) := h
    rw [h'] at ho
    cases ho
    exact absurd hc (by simp [Obj.isCells])
section
variable {w W : World} {p : Option Addr} {d : Int} {t : Bool}
set_option maxHeartbeats 4000000 in
theorem choose_of (hd : ∀ w : World, Below W.heap.size W w → Calls Tryz.prog 125 #[.pointer p] w fun e w' => e = .returned (.int .u8 d) ∧ w = w')
    (ht : ∀ w : World, Below W.heap.size W w → Calls Tryz.prog 129 #[.pointer p] w fun e w' => e = .returned (.bool t) ∧ w = w') (hw : Below W.heap.size W w) (u0 u1 u2 u3 m : Bool) :
    Calls Tryz.prog 119 #[.pointer p, .agg #[.bool u0, .bool u1, .bool u2, .bool u3], .bool m] w fun e w' => e = .returned (.int .u8 (firstB d m (askL (askF u0 u1 t u2 u3) 6))) ∧ Below w.heap.size w w' := by
  refine (callsIn_wide (n := 6)).1 ?_
  refine callsIn_of_wp_marks Tryz.func119 rfl trivial ?_ rfl
  simp only [Tryz.ntmps119, List.size_toArray, List.length_cons, List.length_nil, Nat.reduceAdd, Nat.reduceSub, Array.replicate_succ, Array.replicate_zero, List.push_toArray, List.append_toArray, List.nil_append, List.cons_append]
  gi_wp2
  refine ⟨trivial, callsIn_wide.2 ?_⟩
  have hB4 : Below w.heap.size w ((((w.alloc (.cells #[.pointer p] 87)).alloc (.cells #[.bool u0, .bool u1, .bool u2, .bool u3] 78)).alloc (.cells #[.bool m] 4)).alloc (.cells #[.int .u8 0] 5)) :=
    ((((Below.refl _ w).alloc (Nat.le_refl _) _).alloc (by simp) _).alloc (by simp; omega) _).alloc (by simp; omega) _
  have b0 : Blk ((((w.alloc (.cells #[.pointer p] 87)).alloc (.cells #[.bool u0, .bool u1, .bool u2, .bool u3] 78)).alloc (.cells #[.bool m] 4)).alloc (.cells #[.int .u8 0] 5)) w.heap.size 87 #[.pointer p] := (((Blk.new w _ _).alloc _).alloc _).alloc _
  have b2 : Blk ((((w.alloc (.cells #[.pointer p] 87)).alloc (.cells #[.bool u0, .bool u1, .bool u2, .bool u3] 78)).alloc (.cells #[.bool m] 4)).alloc (.cells #[.int .u8 0] 5)) (w.heap.size + 1 + 1) 4 #[.bool m] := (Blk.new_ (by simp)).alloc _
  have b3 : Blk ((((w.alloc (.cells #[.pointer p] 87)).alloc (.cells #[.bool u0, .bool u1, .bool u2, .bool u3] 78)).alloc (.cells #[.bool m] 4)).alloc (.cells #[.int .u8 0] 5)) (w.heap.size + 1 + 1 + 1) 5 #[.int .u8 0] := Blk.new_ (by simp)
  have s4 : ((((w.alloc (.cells #[.pointer p] 87)).alloc (.cells #[.bool u0, .bool u1, .bool u2, .bool u3] 78)).alloc (.cells #[.bool m] 4)).alloc (.cells #[.int .u8 0] 5)).heap.size = w.heap.size + 4 := by simp
  generalize World.alloc _ _ = w4 at *
  refine (asking_of ht (hw.trans (hB4.mono hw.size)) u0 u1 u2 u3).mono ?_
  rintro e w5 ⟨bn, rfl, hbn, hle, hB5⟩
  have B5 := hB4.trans (hB5.mono hB4.size)
  replace b0 := b0.below hB5 b0.lt
  replace b2 := b2.below hB5 b2.lt
  replace b3 := b3.below hB5 b3.lt
  have s5 := hB5.size
  generalize hf : askF u0 u1 t u2 u3 = f at *
  unfold askV
  gi_wp2
  refine wpIn_rangeFunc_ownF rfl (by omega) (gf := 182) (lb := #[.pointer (some ⟨bn, 0, none⟩)]) rfl trivial (enters_of Tryz.func182 (by kernel_rfl) rfl)
    (ask_stops 5 (by omega) bn f w5 hbn) (fun _ _ => trivial) (fun _ _ _ _ _ _ _ _ => trivial) (Below.refl _ _) (fun _ => rfl)
    (fun pre W1 => ((∀ y ∈ pre, barI d y.val m = true) ∧ Blk W1 w.heap.size 87 #[.pointer p] ∧ Blk W1 (w.heap.size + 1 + 1) 4 #[.bool m] ∧ Blk W1 (w.heap.size + 1 + 1 + 1) 5 #[.int .u8 0]) ∧ Below w.heap.size w W1)
    (fun c pre W1 => (c = .ret ∧ ∃ (q : List (Fin 6)) (x : Fin 6), pre = q ++ [x] ∧ (∀ y ∈ q, barI d y.val m = true) ∧ barI d x.val m = false ∧ Blk W1 (w.heap.size + 1 + 1 + 1) 5 #[.int .u8 (x.val : Int)]) ∧ Below w.heap.size w W1)
    (OwnFrom.and (Own.from (fun s A B row hs hg hr => ⟨hs.1, blk_own hs.2.1 hg hr, blk_own hs.2.2.1 hg hr, blk_own hs.2.2.2 hg hr⟩) _) (ownFrom_below (Nat.le_refl _) (by omega)))
    (fun c => OwnFrom.and (Own.from (fun s A B row hs hg hr => by obtain ⟨h1, q, x, h2, h3, h4, h5⟩ := hs; exact ⟨h1, q, x, h2, h3, h4, blk_own h5 hg hr⟩) _) (ownFrom_below (Nat.le_refl _) (by omega)))
    ⟨⟨by simp, b0, b2, b3⟩, B5⟩
    (fun x => { tmps := #[.pointer p, .agg #[.bool u0, .bool u1, .bool u2, .bool u3], .bool m, .pointer (some ⟨w.heap.size, 0, none⟩), .pointer (some ⟨w.heap.size + 1, 0, none⟩), .pointer (some ⟨w.heap.size + 1 + 1, 0, none⟩), .pointer (some ⟨w.heap.size + 1 + 1 + 1, 0, none⟩), .int .u8 (x.val : Int), .pointer p, .agg #[.bool u0, .bool u1, .bool u2, .bool u3], .func (.func 182) #[] #[.pointer (some ⟨bn, 0, none⟩)], .int .u8 (x.val : Int), undef, undef, undef, undef, undef, undef], defers := [] }) ?assign ?body ?done ?stop
  case assign =>
    intro l x W1 K hK
    gi_wp2
    exact hK
  case body =>
    rintro l pre x W1 ⟨⟨hp, h0, h2, h3⟩, hB⟩ _
    have c0 : W1.cell? ⟨w.heap.size, 0, none⟩ = some (.pointer p) := h0.cell 0
    have c2 : W1.cell? ⟨w.heap.size + 1 + 1, 0, none⟩ = some (.bool m) := h2.cell 0
    have c3 : W1.cell? ⟨w.heap.size + 1 + 1 + 1, 0, none⟩ = some (.int .u8 0) := h3.cell 0
    have f3 := h3.frozen 0
    obtain ⟨z, hz⟩ : ∃ z, barI d x.val m = z := ⟨_, rfl⟩
    have hbar := barred_of (hd W1 (hw.trans (hB.mono hw.size))) (x.val : Int) m (by omega) (by have := x.isLt; omega)
    rw [hz] at hbar
    have HZ := Lib.hid hz
    have HP := Lib.hid hp
    have H0 := Lib.hid h0
    have H2 := Lib.hid h2
    have H3 := Lib.hid h3
    clear hz hp h0 h2 h3
    have hx6 : (x.val : Int) ≤ 255 := by have := x.isLt; omega
    cases z with
    | true =>
      gi_wp2_with (refine ⟨trivial, ?_⟩; gi_at_call 166; refine (CallsIn.inRound l (callsIn_wide.2 hbar)).mono ?_; rintro e w' ⟨rfl, rfl⟩)
      exact ⟨KeepsOthers.refl _, trivial, ⟨fun y hy => (List.mem_append.1 hy).elim (HP.out y) (fun e => by simp at e; subst e; exact HZ.out), H0.out, H2.out, H3.out⟩, hB⟩
    | false =>
      gi_wp2_with (refine ⟨trivial, ?_⟩; gi_at_call 166; refine (CallsIn.inRound l (callsIn_wide.2 hbar)).mono ?_; rintro e w' ⟨rfl, rfl⟩)
      exact ⟨KeepsOthers.setCell _ _ _, ⟨rfl, pre, x, rfl, HP.out, HZ.out, H3.out.set_ 0 _⟩, hB.setCell (p := ⟨w.heap.size + 1 + 1 + 1, 0, none⟩) (by simp; omega) _⟩
  case done =>
    rintro D xs W1 hD rfl ⟨⟨hne, _, _, h3⟩, hB⟩ hK
    have c3 : W1.cell? ⟨w.heap.size + 1 + 1 + 1, 0, none⟩ = some (.int .u8 0) := h3.cell 0
    have f3 := h3.frozen 0
    gi_wp2
    have hK' := (KeepsOthers.setCell W1 ⟨w.heap.size + 1 + 1 + 1, 0, none⟩ (.int .u8 0)).same D _ hK rfl
    refine ⟨by simp, .inl ⟨_, _, rfl, run_takeDeferred hK', ?_⟩⟩
    have hc5 := cell_kept (World.cell?_setCell_same' W1 ⟨w.heap.size + 1 + 1 + 1, 0, none⟩ (.int .u8 0) (by rw [c3]; rfl)) (grownBy_putObj' _ D (.deferred none)) (fun r e => by cases e; exact ⟨_, hK', rfl⟩)
    refine ⟨.int .u8 0, ?_, by rw [hf, firstB_all hne], (hB.setCell (p := ⟨w.heap.size + 1 + 1 + 1, 0, none⟩) (by simp; omega) _).trans (belowK_b (w := w) (Nat.le_refl _) _ D _ _ (by omega) hK' rfl rfl)⟩
    simp [results, Tryz.f119, go_sem, hc5]
  case stop =>
    rintro D c pre W1 hD hpre ⟨⟨rfl, q, x, rfl, hq, hx, h3⟩, hB⟩ hK
    have hcr : W1.cell? ⟨w.heap.size + 1 + 1 + 1, 0, none⟩ = some (.int .u8 (x.val : Int)) := h3.cell 0
    gi_wp2
    refine ⟨by simp, .inl ⟨_, _, rfl, run_takeDeferred hK, ?_⟩⟩
    have hc5 := cell_kept hcr (grownBy_putObj' _ D (.deferred none)) (fun r e => by cases e; exact ⟨_, hK, rfl⟩)
    obtain ⟨r, hr⟩ := hpre
    refine ⟨.int .u8 (x.val : Int), ?_, by rw [hf, ← hr, firstB_pre hq hx], hB.trans (belowK_b (w := w) (Nat.le_refl _) W1 D _ _ (by omega) hK rfl rfl)⟩
    simp [results, Tryz.f119, go_sem, hc5]
end
end Go.Proofs.YtleofglnlfpoeaaGreat
namespace Go.Proofs.YtleofglnlfpoeaaGreat
open Go.RowKit Go.Shelf
set_option linter.unusedVariables false
set_option linter.unusedSimpArgs false
set_option maxRecDepth 100000
attribute [local go_sem] Oper.semAt_some
/-- The bits of so many kinds. -/
def stI (l : List (Fin 6)) : Int := l.foldl (fun b x => withI b (kbI x.val) true) 0
theorem stI_snoc (l : List (Fin 6)) (x : Fin 6) : stI (l ++ [x]) = withI (stI l) (kbI x.val) true := by simp [stI]
section
variable {w W : World} {p : Option Addr} {t : Bool}
set_option maxHeartbeats 4000000 in
theorem status_of (ht : ∀ w : World, Below W.heap.size W w → Calls Tryz.prog 129 #[.pointer p] w fun e w' => e = .returned (.bool t) ∧ w = w') (hw : Below W.heap.size W w) (u2 u3 : Bool) :
    Calls Tryz.prog 179 #[.pointer p, .bool u2, .bool u3] w fun e w' => e = .returned (.int .u8 (stI (askL (askF false false t u2 u3) 6))) ∧ Below w.heap.size w w' := by
  refine (callsIn_wide (n := 6)).1 ?_
  refine callsIn_of_wp_marks Tryz.func179 rfl trivial ?_ rfl
  simp only [Tryz.ntmps179, List.size_toArray, List.length_cons, List.length_nil, Nat.reduceAdd, Nat.reduceSub, Array.replicate_succ, Array.replicate_zero, List.push_toArray, List.append_toArray, List.nil_append, List.cons_append]
  gi_wp2
  refine ⟨trivial, callsIn_wide.2 ?_⟩
  have hB4 : Below w.heap.size w (w.alloc (.cells #[.int .u8 0] 5)) := (Below.refl _ w).alloc (Nat.le_refl _) _
  have b0 : Blk (w.alloc (.cells #[.int .u8 0] 5)) w.heap.size 5 #[.int .u8 0] := Blk.new w _ _
  have s4 : (w.alloc (.cells #[.int .u8 0] 5)).heap.size = w.heap.size + 1 := by simp
  generalize World.alloc _ _ = w4 at *
  refine (asking_of ht (hw.trans (hB4.mono hw.size)) false false u2 u3).mono ?_
  rintro e w5 ⟨bn, rfl, hbn, hle, hB5⟩
  have B5 := hB4.trans (hB5.mono hB4.size)
  replace b0 := b0.below hB5 b0.lt
  have s5 := hB5.size
  generalize hf : askF false false t u2 u3 = f at *
  unfold askV
  gi_wp2
  refine wpIn_rangeFunc_ownF rfl (by omega) (gf := 182) (lb := #[.pointer (some ⟨bn, 0, none⟩)]) rfl trivial (enters_of Tryz.func182 (by kernel_rfl) rfl)
    (ask_stops 5 (by omega) bn f w5 hbn) (fun _ _ => trivial) (fun _ _ _ _ _ _ _ _ => trivial) (Below.refl _ _) (fun _ => rfl)
    (fun pre W1 => Blk W1 w.heap.size 5 #[.int .u8 (stI pre)] ∧ Below w.heap.size w W1)
    (fun c pre W1 => False ∧ Below w.heap.size w W1)
    (OwnFrom.and (I := fun pre W1 => Blk W1 w.heap.size 5 #[.int .u8 (stI pre)]) (fun s A B row hs hg hr => blk_own hs hg (fun r e => (hr r e).2)) (ownFrom_below (Nat.le_refl _) (by omega)))
    (fun c => OwnFrom.and (I := fun _ _ => False) (fun _ _ _ _ hs _ _ => hs) (ownFrom_below (Nat.le_refl _) (by omega)))
    ⟨b0, B5⟩
    (fun x => { tmps := #[.pointer p, .bool u2, .bool u3, undef, undef, undef, .int .u8 0, .pointer (some ⟨w.heap.size, 0, none⟩), .int .u8 (x.val : Int), .pointer p, .bool u2, .bool u3, .agg #[.bool false, .bool false, .bool u2, .bool u3], .func (.func 182) #[] #[.pointer (some ⟨bn, 0, none⟩)], .int .u8 (x.val : Int), undef, undef, undef, undef, undef], defers := [] }) ?assign ?body ?done ?stop
  case assign =>
    intro l x W1 K hK
    gi_wp2
    exact hK
  case body =>
    rintro l pre x W1 ⟨h0, hB⟩ _
    have c0 : W1.cell? ⟨w.heap.size, 0, none⟩ = some (.int .u8 (stI pre)) := h0.cell 0
    have f0 := h0.frozen 0
    have hsn := stI_snoc pre x
    generalize hv : stI pre = v at *
    generalize hx : (x.val : Int) = xi at *
    have x0 : 0 ≤ xi := by omega
    have x1 : xi ≤ 255 := by have := x.isLt; omega
    have H0 := Lib.hid h0
    have HS := Lib.hid hsn
    clear h0 hv hsn hx
    have hmx : Tryz.prog.follows .mixedOrders = true := by kernel_rfl
    gi_wp2
    gi_region_with_o (refine ⟨trivial, ?_⟩; first | (gi_at_call 183; refine (CallsIn.inRound l (callsIn_wide.2 (kbit_any _ _ x0 x1))).mono ?_; rintro e w' ⟨rfl, rfl⟩) | (gi_at_call 190; refine (CallsIn.inRound l (callsIn_wide.2 (with_any _ _ _ _))).mono ?_; rintro e w' ⟨rfl, rfl⟩))
    all_goals gi_wp2
    all_goals exact ⟨(KeepsOthers.setCell _ _ _).trans (KeepsOthers.drew _), trivial, by rw [HS.out]; exact H0.out.set_ 0 _, (hB.setCell (p := ⟨w.heap.size, 0, none⟩) (by simp) _).drew⟩
  case done =>
    rintro D xs W1 hD rfl ⟨h0, hB⟩ hK
    have c0 : W1.cell? ⟨w.heap.size, 0, none⟩ = some (.int .u8 (stI (askL f 6))) := h0.cell 0
    gi_wp2
    refine ⟨by simp, .inl ⟨_, _, rfl, run_takeDeferred hK, ?_⟩⟩
    exact ⟨_, results_tmp rfl _ _ _, by rw [hf]; rfl, hB.trans (belowK_b (w := w) (Nat.le_refl _) W1 D _ _ (by omega) hK rfl rfl)⟩
  case stop =>
    rintro D c pre W1 hD _ h _
    exact h.1.elim
end
end Go.Proofs.YtleofglnlfpoeaaGreat
namespace Go.Proofs.YtleofglnlfpoeaaGreat
open Go.RowKit

end Go.Proofs.YtleofglnlfpoeaaGreat
