/-
  Pages: within, moved.
-/
import Derived.Test.YtccimkmlbcgekaaDoorMmu1
namespace Go.Proofs.YtccimkmlbcgekaaDoor
open Go.RowKit Go.Shelf
set_option linter.unusedVariables false
set_option linter.unusedSimpArgs false
set_option maxRecDepth 100000
attribute [local go_sem] Oper.semAt_some
def wthV (bn : Nat) : Value := .func (.func 60) #[] #[.pointer (some ⟨bn, 0, none⟩)]
def WthR (m : Int) (w : World) (e : Ending) (w' : World) : Prop := ∃ bn, e = .returned (wthV bn) ∧ Blk w' bn 5 #[.int .u8 m] ∧ w.heap.size ≤ bn ∧ Below w.heap.size w w'
theorem within_any (m : Int) (w : World) : Calls Tryd.prog 50 #[.int .u8 m] w (WthR m w) := by
  have hB : Below w.heap.size w (w.alloc (.cells #[.int .u8 m] 5)) := (Below.refl _ w).alloc (Nat.le_refl _) _
  have hb := Blk.new w 5 #[.int .u8 m]
  have HB := Lib.hid hB
  have H0 := Lib.hid hb
  clear hB hb
  go_enter Tryd.func50, Tryd.ntmps50
  go_wp2
  go_ret
  exact ⟨_, rfl, H0.out, Nat.le_refl _, HB.out⟩
/-- Pages of which those of a mask are in a bank. -/
def mvd (z : Nat → Int) (m b : Int) (i : Nat) : Int := if bitB m i = true then b else z i
def p8 (z : Nat → Int) : Array Value := #[.int .u8 (z 0), .int .u8 (z 1), .int .u8 (z 2), .int .u8 (z 3), .int .u8 (z 4), .int .u8 (z 5), .int .u8 (z 6), .int .u8 (z 7)]
theorem p8_i (z : Nat → Int) : p8 z = iArr .u8 8 z := rfl
/-- Those that have been moved so far. -/
def mvL (z : Nat → Int) (b : Int) (l : List (Fin 8)) (i : Nat) : Int := if l.any (fun x => x.val == i) then b else z i
theorem mvL_snoc (z : Nat → Int) (b : Int) (l : List (Fin 8)) (x : Fin 8) : (p8 (mvL z b l)).setIfInBounds x.val (.int .u8 b) = p8 (mvL z b (l ++ [x])) := by
  rw [p8_i, p8_i, iArr_set]
  exact iArr_congr fun i _ => by
    unfold mvL
    simp only [List.any_append, List.any_cons, List.any_nil, Bool.or_false]
    by_cases e : i = x.val
    · subst e; simp
    · have : (x.val == i) = false := by simp; omega
      rw [if_neg e, this, Bool.or_false]
theorem mvL_all (z : Nat → Int) (m b : Int) : p8 (mvL z b (wthL (fun i => bitB m i) 8)) = p8 (mvd z m b) := by
  rw [p8_i, p8_i]
  exact iArr_congr fun i hi => by
    unfold mvL mvd
    have : (wthL (fun i => bitB m i) 8).any (fun x => x.val == i) = bitB m i := by
      apply Bool.eq_iff_iff.2
      rw [List.any_eq_true]
      constructor
      · rintro ⟨x, hx, e⟩
        have := (wthL_mem _ 8 (by omega) x).1 hx
        have e : x.val = i := by simpa using e
        rw [← e]; exact this.2
      · intro h
        exact ⟨⟨i, hi⟩, (wthL_mem _ 8 (by omega) _).2 ⟨hi, h⟩, by simp⟩
    rw [this]
theorem info8 : (Tryd.prog.info? 22).map (·.size) = some 8 := by kernel_rfl
set_option maxHeartbeats 4000000 in
theorem moved_any (z : Nat → Int) (m b : Int) (w : World) : Calls Tryd.prog 51 #[.agg (p8 z), .int .u8 m, .int .u8 b] w fun e w' => e = .returned (.agg (p8 (mvd z m b))) ∧ Below w.heap.size w w' := by
  show Calls Tryd.prog 51 #[.agg #[.int .u8 (z 0), .int .u8 (z 1), .int .u8 (z 2), .int .u8 (z 3), .int .u8 (z 4), .int .u8 (z 5), .int .u8 (z 6), .int .u8 (z 7)], .int .u8 m, .int .u8 b] w _
  refine (callsIn_wide (n := 6)).1 ?_
  refine callsIn_of_wp_marks Tryd.func51 rfl trivial ?_ rfl
  simp only [Tryd.ntmps51, List.size_toArray, List.length_cons, List.length_nil, Nat.reduceAdd, Nat.reduceSub, Array.replicate_succ, Array.replicate_zero, List.push_toArray, List.append_toArray, List.nil_append, List.cons_append]
  gi_wp2
  refine ⟨trivial, callsIn_wide.2 ?_⟩
  have hB4 : Below w.heap.size w (((w.alloc (.cells #[.int .u8 (z 0), .int .u8 (z 1), .int .u8 (z 2), .int .u8 (z 3), .int .u8 (z 4), .int .u8 (z 5), .int .u8 (z 6), .int .u8 (z 7)] 22)).alloc (.cells #[.int .u8 b] 5)).alloc (.cells #[.int .u8 0, .int .u8 0, .int .u8 0, .int .u8 0, .int .u8 0, .int .u8 0, .int .u8 0, .int .u8 0] 22)) := (((Below.refl _ w).alloc (Nat.le_refl _) _).alloc (by simp) _).alloc (by simp; omega) _
  have b0 : Blk (((w.alloc (.cells #[.int .u8 (z 0), .int .u8 (z 1), .int .u8 (z 2), .int .u8 (z 3), .int .u8 (z 4), .int .u8 (z 5), .int .u8 (z 6), .int .u8 (z 7)] 22)).alloc (.cells #[.int .u8 b] 5)).alloc (.cells #[.int .u8 0, .int .u8 0, .int .u8 0, .int .u8 0, .int .u8 0, .int .u8 0, .int .u8 0, .int .u8 0] 22)) w.heap.size 22 (p8 (mvL z b [])) := Blk.alloc (Blk.alloc (Blk.new_ rfl) _) _
  have b1 : Blk (((w.alloc (.cells #[.int .u8 (z 0), .int .u8 (z 1), .int .u8 (z 2), .int .u8 (z 3), .int .u8 (z 4), .int .u8 (z 5), .int .u8 (z 6), .int .u8 (z 7)] 22)).alloc (.cells #[.int .u8 b] 5)).alloc (.cells #[.int .u8 0, .int .u8 0, .int .u8 0, .int .u8 0, .int .u8 0, .int .u8 0, .int .u8 0, .int .u8 0] 22)) (w.heap.size + 1) 5 #[.int .u8 b] := Blk.alloc (Blk.new_ (by simp)) _
  have b2 : Blk (((w.alloc (.cells #[.int .u8 (z 0), .int .u8 (z 1), .int .u8 (z 2), .int .u8 (z 3), .int .u8 (z 4), .int .u8 (z 5), .int .u8 (z 6), .int .u8 (z 7)] 22)).alloc (.cells #[.int .u8 b] 5)).alloc (.cells #[.int .u8 0, .int .u8 0, .int .u8 0, .int .u8 0, .int .u8 0, .int .u8 0, .int .u8 0, .int .u8 0] 22)) (w.heap.size + 1 + 1) 22 (p8 fun _ => 0) := Blk.new_ (by simp)
  have s4 : (((w.alloc (.cells #[.int .u8 (z 0), .int .u8 (z 1), .int .u8 (z 2), .int .u8 (z 3), .int .u8 (z 4), .int .u8 (z 5), .int .u8 (z 6), .int .u8 (z 7)] 22)).alloc (.cells #[.int .u8 b] 5)).alloc (.cells #[.int .u8 0, .int .u8 0, .int .u8 0, .int .u8 0, .int .u8 0, .int .u8 0, .int .u8 0, .int .u8 0] 22)).heap.size = w.heap.size + 3 := by simp
  generalize World.alloc _ _ = w4 at *
  refine (within_any m w4).mono ?_
  rintro e w5 ⟨bn, rfl, hbn, hle, hB5⟩
  have B5 := hB4.trans (hB5.mono hB4.size)
  replace b0 := b0.below hB5 b0.lt
  replace b1 := b1.below hB5 b1.lt
  replace b2 := b2.below hB5 b2.lt
  have s5 := hB5.size
  unfold wthV
  gi_wp2
  refine wpIn_rangeFunc_ownF rfl (by omega) (gf := 60) (lb := #[.pointer (some ⟨bn, 0, none⟩)]) rfl trivial (enters_of Tryd.func60 (by kernel_rfl) rfl)
    (wth_stops 5 (by omega) bn m w5 hbn) (fun h k hb => k (h hb)) (fun W l o o' _ ho hc _ h => blk_put h ho hc) (Below.refl _ _) (fun _ => rfl)
    (fun pre W1 => (Blk W1 w.heap.size 22 (p8 (mvL z b pre)) ∧ Blk W1 (w.heap.size + 1) 5 #[.int .u8 b] ∧ Blk W1 (w.heap.size + 1 + 1) 22 (p8 fun _ => 0)) ∧ Below w.heap.size w W1)
    (fun c pre W1 => False ∧ Below w.heap.size w W1)
    (OwnFrom.and (I := fun pre W1 => Blk W1 w.heap.size 22 (p8 (mvL z b pre)) ∧ Blk W1 (w.heap.size + 1) 5 #[.int .u8 b] ∧ Blk W1 (w.heap.size + 1 + 1) 22 (p8 fun _ => 0)) (fun s A B row hs hg hr => ⟨blk_own hs.1 hg (fun r e => (hr r e).2), blk_own hs.2.1 hg (fun r e => (hr r e).2), blk_own hs.2.2 hg (fun r e => (hr r e).2)⟩) (ownFrom_below (Nat.le_refl _) (by omega)))
    (fun c => OwnFrom.and (I := fun _ _ => False) (fun _ _ _ _ hs _ _ => hs) (ownFrom_below (Nat.le_refl _) (by omega)))
    ⟨⟨b0, b1, b2⟩, B5⟩
    (fun x => { tmps := #[.agg #[.int .u8 (z 0), .int .u8 (z 1), .int .u8 (z 2), .int .u8 (z 3), .int .u8 (z 4), .int .u8 (z 5), .int .u8 (z 6), .int .u8 (z 7)], .int .u8 m, .int .u8 b, .pointer (some ⟨w.heap.size, 0, none⟩), undef, .pointer (some ⟨w.heap.size + 1, 0, none⟩), .pointer (some ⟨w.heap.size + 1 + 1, 0, none⟩), .int .i64 (x.val : Int), .int .u8 m, .func (.func 60) #[] #[.pointer (some ⟨bn, 0, none⟩)], .int .i64 (x.val : Int), undef, undef, undef, undef], defers := [] }) ?assign ?body ?done ?stop
  case assign =>
    intro l x W1 K hK
    gi_wp2
    exact hK
  case body =>
    rintro l pre x W1 ⟨⟨h0, h1, h2⟩, hB⟩ _
    have c1 : W1.cell? ⟨w.heap.size + 1, 0, none⟩ = some (.int .u8 b) := h1.cell 0
    have hx8 := x.isLt
    have c0 : W1.cell? ⟨w.heap.size, x.val, none⟩ = some (.int .u8 (mvL z b pre x.val)) := by rw [h0.cell, p8_i, iArr_at .u8 8 _ _ hx8]
    have f0 := h0.frozen x.val
    have i0 : (0 : Int) ≤ (x.val : Int) := by omega
    have i1 : (x.val : Int) < 8 := by omega
    have H0 := Lib.hid h0
    have H1 := Lib.hid h1
    have H2 := Lib.hid h2
    have HSN := Lib.hid (mvL_snoc z b pre x)
    clear h0 h1 h2
    gi_wp2
    exact ⟨KeepsOthers.setCell _ _ _, fun h => h.far (p := ⟨w.heap.size, x.val, none⟩) (by simp; omega) _, ⟨HSN.out ▸ H0.out.set_ x.val (.int .u8 b), H1.out.far (p := ⟨w.heap.size, x.val, none⟩) (by simp) _, H2.out.far (p := ⟨w.heap.size, x.val, none⟩) (by simp; omega) _⟩, hB.setCell (p := ⟨w.heap.size, x.val, none⟩) (by simp) _⟩
  case done =>
    rintro D xs W1 hD rfl ⟨⟨h0, h1, h2⟩, hB⟩ hK
    rw [mvL_all] at h0
    have c0 : W1.cell? ⟨w.heap.size, 0, none⟩ = some (.int .u8 (mvd z m b 0)) := h0.cell 0
    have d0 : W1.cell? ⟨w.heap.size + 1 + 1, 0, none⟩ = some (.int .u8 0) := h2.cell 0
    have f0 := h2.frozen 0
    have c1 : W1.cell? ⟨w.heap.size, 1, none⟩ = some (.int .u8 (mvd z m b 1)) := h0.cell 1
    have d1 : W1.cell? ⟨w.heap.size + 1 + 1, 1, none⟩ = some (.int .u8 0) := h2.cell 1
    have f1 := h2.frozen 1
    have c2 : W1.cell? ⟨w.heap.size, 2, none⟩ = some (.int .u8 (mvd z m b 2)) := h0.cell 2
    have d2 : W1.cell? ⟨w.heap.size + 1 + 1, 2, none⟩ = some (.int .u8 0) := h2.cell 2
    have f2 := h2.frozen 2
    have c3 : W1.cell? ⟨w.heap.size, 3, none⟩ = some (.int .u8 (mvd z m b 3)) := h0.cell 3
    have d3 : W1.cell? ⟨w.heap.size + 1 + 1, 3, none⟩ = some (.int .u8 0) := h2.cell 3
    have f3 := h2.frozen 3
    have c4 : W1.cell? ⟨w.heap.size, 4, none⟩ = some (.int .u8 (mvd z m b 4)) := h0.cell 4
    have d4 : W1.cell? ⟨w.heap.size + 1 + 1, 4, none⟩ = some (.int .u8 0) := h2.cell 4
    have f4 := h2.frozen 4
    have c5 : W1.cell? ⟨w.heap.size, 5, none⟩ = some (.int .u8 (mvd z m b 5)) := h0.cell 5
    have d5 : W1.cell? ⟨w.heap.size + 1 + 1, 5, none⟩ = some (.int .u8 0) := h2.cell 5
    have f5 := h2.frozen 5
    have c6 : W1.cell? ⟨w.heap.size, 6, none⟩ = some (.int .u8 (mvd z m b 6)) := h0.cell 6
    have d6 : W1.cell? ⟨w.heap.size + 1 + 1, 6, none⟩ = some (.int .u8 0) := h2.cell 6
    have f6 := h2.frozen 6
    have c7 : W1.cell? ⟨w.heap.size, 7, none⟩ = some (.int .u8 (mvd z m b 7)) := h0.cell 7
    have d7 : W1.cell? ⟨w.heap.size + 1 + 1, 7, none⟩ = some (.int .u8 0) := h2.cell 7
    have f7 := h2.frozen 7
    have H2 := Lib.hid h2
    clear h0 h1 h2
    gi_wp2
    have hP : ∃ W2, put8 W1 (w.heap.size + 1 + 1) (fun i => .int .u8 (mvd z m b i)) = W2 := ⟨_, rfl⟩
    obtain ⟨W2, hW2⟩ := hP
    have HP2 : Blk W2 (w.heap.size + 1 + 1) 22 (p8 (mvd z m b)) := hW2 ▸ H2.out.put8 rfl (fun i => .int .u8 (mvd z m b i))
    have HB2 : Below w.heap.size w W2 := hW2 ▸ below8 hB (by omega) (fun i => .int .u8 (mvd z m b i))
    have HKO : KeepsOthers W1 W2 := hW2 ▸ (((((((KeepsOthers.setCell _ _ _).trans (KeepsOthers.setCell _ _ _)).trans (KeepsOthers.setCell _ _ _)).trans (KeepsOthers.setCell _ _ _)).trans (KeepsOthers.setCell _ _ _)).trans (KeepsOthers.setCell _ _ _)).trans (KeepsOthers.setCell _ _ _)).trans (KeepsOthers.setCell _ _ _)
    unfold put8 put4 at hW2
    rw [hW2]
    have hK' := HKO.same D _ hK rfl
    refine ⟨by simp, .inl ⟨_, _, rfl, run_takeDeferred hK', ?_⟩⟩
    exact ⟨_, results_cell (a := ⟨w.heap.size + 1 + 1, 0, none⟩) Tryd.results51 (by rfl) ((blk_put HP2 hK' rfl).run_load Tryd.underlying22 rfl info8), rfl, HB2.trans (belowK_b (w := w) (Nat.le_refl _) W2 D _ _ (by omega) hK' rfl rfl)⟩
  case stop =>
    rintro D c pre W1 hD _ h _
    exact h.1.elim
end Go.Proofs.YtccimkmlbcgekaaDoor
