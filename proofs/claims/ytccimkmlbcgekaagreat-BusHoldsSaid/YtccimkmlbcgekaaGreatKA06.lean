/-
  Texts of these proofs, one behind the other: G22, Mmu1, Mmu2.
-/
import Derived.Test.YtccimkmlbcgekaaGreatKA05
import Derived.Test.YtccimkmlbcgekaaGreatKA01
import Derived.Test.YtccimkmlbcgekaaGreatKA04
import Derived.RangeFuncNested
import Derived.RangeFuncBound
import Derived.RangeFuncCalls
import Derived.RangeFuncLeaves
import Derived.RangeFuncFrom
import Derived.Shelf.Abstract
import Derived.Shelf.RegionOpen
import Derived.OwnWalkIn
import Derived.TacticsInMore
import Derived.LoopNIn
import Derived.LoopIn
import Derived.Lib.Hide
namespace Go.Proofs.YtccimkmlbcgekaaGreat
open Go
section
variable {P : Program} {ops : Array Oper} {Q : Exit → Act → World → Prop} {md : Region.Mode} {S : World → Prop}
/-- What is owed where an operation that is ready is carried out next. -/
def RgStep (P : Program) (md : Region.Mode) (ops : Array Oper) (Q : Exit → Act → World → Prop) (S : World → Prop) (fuel : Nat) (l : Array Bool) (a : Act) (w : World) (oi : Oper) : Prop :=
  ∀ K' : Act → World → Prop, Shut (∀ a w, S w → (S w → wpAnyH P md ops Q S fuel l a w) → K' a w) → Oper.wp P oi a w K' Q
theorem rg_step {i : Nat} {oi : Oper} {fuel : Nat} {listed l : Array Bool} {a : Act} {w : World} {rs : List Nat} (hi : ops.toList[i]? = some oi) (hl : listed.setIfInBounds i true = l)
    (hw : Region.wanted oi (yielded ops a.tmps) = true) (h : RgStep P md ops Q S fuel l a w oi) (hs : AllReadyH P md ops Q S fuel listed a w rs) : AllReadyH P md ops Q S fuel listed a w (i :: rs) := by
  subst hl
  refine AllReadyH.cons (rg_at hi) (fun K hK => ?_) hs
  rw [if_pos hw]
  exact h K hK
theorem rg_of {rs : List Nat} {fuel : Nat} {listed : Array Bool} {a : Act} {w : World} (hr : Region.ready md ops listed = rs) (hne : rs.isEmpty = false)
    (h : AllReadyH P md ops Q S fuel listed a w rs) : wpAnyH P md ops Q S (fuel + 1) listed a w := wpAnyH_ready hr (by rintro rfl; cases hne) h
/-- More is held from here on. -/
theorem rg_more {S' : World → Prop} (h : ∀ w, S' w → S w) : ∀ (fuel : Nat) (listed : Array Bool) (a : Act) (w : World), wpAnyH P md ops Q S' fuel listed a w → wpAnyH P md ops Q S fuel listed a w
  | 0, _, _, _, H => H
  | fuel + 1, _, _, _, H => ⟨H.1, fun i hi => wpOp_mono (fun a' w' h' => ⟨h _ h'.1, rg_more h fuel _ a' w' h'.2⟩) (H.2 i hi)⟩
end
end Go.Proofs.YtccimkmlbcgekaaGreat
namespace Go.Proofs.YtccimkmlbcgekaaGreat
open Go.RowKit Go.Shelf
set_option linter.unusedVariables false
set_option linter.unusedSimpArgs false
set_option maxRecDepth 100000
attribute [local go_sem] Oper.semAt_some
/-- The pages of a mask up to one, in their order. -/
def wthL (f : Nat → Bool) : Nat → List (Fin 8)
  | 0 => []
  | k + 1 => if h : k < 8 then (if f k then wthL f k ++ [⟨k, h⟩] else wthL f k) else wthL f k
theorem wthL_pre (f : Nat → Bool) (k m : Nat) (h : k ≤ m) : wthL f k <+: wthL f m := by
  induction m with
  | zero =>
    obtain rfl : k = 0 := by omega
    exact List.prefix_rfl
  | succ m ih =>
    by_cases e : k = m + 1
    · subst e; exact List.prefix_rfl
    · have := ih (by omega)
      simp only [wthL]
      split
      · split
        · exact this.trans (List.prefix_append _ _)
        · exact this
      · exact this
theorem wthL_len (f : Nat → Bool) (k : Nat) : (wthL f k).length ≤ k := by
  induction k with
  | zero => simp [wthL]
  | succ k ih =>
    simp only [wthL]
    split
    · split
      · simp; omega
      · omega
    · omega
theorem wthL_mem (f : Nat → Bool) (k : Nat) (hk : k ≤ 8) (x : Fin 8) : x ∈ wthL f k ↔ x.val < k ∧ f x.val = true := by
  induction k with
  | zero => simp [wthL]
  | succ k ih =>
    have ih := ih (by omega)
    simp only [wthL, dif_pos (show k < 8 by omega)]
    by_cases hf : f k = true
    · rw [if_pos hf, List.mem_append, ih]
      simp only [List.mem_singleton]
      constructor
      · rintro (⟨h1, h2⟩ | rfl)
        · exact ⟨by omega, h2⟩
        · exact ⟨by simp, hf⟩
      · rintro ⟨h1, h2⟩
        by_cases e : x.val = k
        · exact .inr (Fin.ext e)
        · exact .inl ⟨by omega, h2⟩
    · rw [if_neg hf, ih]
      constructor
      · rintro ⟨h1, h2⟩; exact ⟨by omega, h2⟩
      · rintro ⟨h1, h2⟩
        refine ⟨?_, h2⟩
        by_cases e : x.val = k
        · rw [e] at h2; exact absurd h2 hf
        · omega
/-- The cell that the iterator reads is kept. -/
def KpM (bn : Nat) (m : Int) (A B : World) : Prop := Blk A bn 5 #[.int .u8 m] → Blk B bn 5 #[.int .u8 m]
theorem blk_put {W : World} {g l : Nat} {t : TypeId} {cs : Array Value} (h : Blk W g t cs) {o o' : Obj} (ho : W.heap[l]? = some o) (hc : o.isCells = false) : Blk (W.putObj l o') g t cs :=
  h.grown (grownBy_putObj' W l o') fun e => by
    cases e
    have h' : W.heap[g]? = some (Obj.cells cs t (0, 0)) := h
    rw [h'] at ho
    cases ho
    exact absurd hc (by simp [Obj.isCells])
theorem mblk_own {W W' : World} {g : Nat} {t : TypeId} {cs : Array Value} {row : Option Nat} (h : Blk W g t cs) (hg : W.grownBy W' row) (hr : ∀ r, row = some r → ∃ o : Obj, W.heap[r]? = some o ∧ o.isCells = false) : Blk W' g t cs :=
  h.grown hg fun e => by
    obtain ⟨o, ho, hc⟩ := hr g e.symm
    have h' : W.heap[g]? = some (Obj.cells cs t (0, 0)) := h
    rw [h'] at ho
    cases ho
    exact absurd hc (by simp [Obj.isCells])
set_option maxHeartbeats 4000000 in
theorem wth_stops (n : Nat) (hn : 2 ≤ n) (bn : Nat) (m : Int) (w : World) (hb : Blk w bn 5 #[.int .u8 m]) :
    SeqStopsK Fence.wide n Tryz.prog 128 #[.pointer (some ⟨bn, 0, none⟩)] (fun x : Fin 8 => #[.int .i64 (x.val : Int)]) (KpM bn m) (fun xs => xs = wthL (fun i => bitB m i) 8) (fun pre => pre <+: wthL (fun i => bitB m i) 8) 8 w := fun l J Jx W hW hJ hJx hY h0 => by
  have hb2 := Lib.hid (hb.below hW hb.lt)
  clear hb hW
  obtain ⟨f, hf⟩ : ∃ f : Nat → Bool, (fun i : Nat => bitB m (i : Int)) = f := ⟨_, rfl⟩
  rw [hf]
  have HF := Lib.hid hf
  clear hf
  refine callsIn_of_wp Tryz.func128 rfl trivial ?_ rfl
  simp only [Tryz.ntmps128, List.size_toArray, List.length_cons, List.length_nil, Nat.reduceAdd, Nat.reduceSub, Array.replicate_succ, Array.replicate_zero, List.push_toArray, List.append_toArray, List.nil_append, List.cons_append]
  gi_wp2
  gi_loopw [4] (fun i wr => ∃ k : Nat, k ≤ 8 ∧ i = .int .i64 k ∧ J (wthL f k) wr ∧ Blk wr bn 5 #[.int .u8 m]) (fun i wr => 8 - (intOf i).toNat)
  case atStart =>
    exact ⟨0, by omega, rfl, h0, hb2.out⟩
  case round =>
    obtain ⟨k, hk, rfl, hJs, hB⟩ := hrel
    by_cases hlt : k < 8
    · obtain ⟨fn, tmps, assign, body, hy, hR⟩ := hY (wthL f k) ⟨k, hlt⟩ wr hJs (Nat.lt_of_le_of_lt (wthL_len f k) hlt)
      dsimp only at hy
      have i0 : (k : Int) < 8 := by omega
      have i1 : (0 : Int) ≤ (k : Int) := by omega
      have c0 : wr.cell? ⟨bn, 0, none⟩ = some (.int .u8 m) := hB.cell 0
      have HB := Lib.hid hB
      obtain ⟨x, hx⟩ : ∃ x, f k = x := ⟨_, rfl⟩
      have e : wthL f (k + 1) = if x = true then wthL f k ++ [⟨k, hlt⟩] else wthL f k := by
        simp only [wthL]; rw [dif_pos hlt, hx]
      have HX := Lib.hid e
      have hbit := bit_any m (k : Int) wr
      rw [show bitB m (k : Int) = f k from congrFun HF.out k, hx] at hbit
      have HBIT := Lib.hid hbit
      clear hx e hB hbit hb2
      cases x with
      | false =>
        gi_wp2
        refine ⟨trivial, ?_⟩
        gi_wp2
        refine ⟨fun _ => by omega, (callsIn_wide.2 HBIT.out).mono ?_⟩
        rintro e w' ⟨rfl, rfl⟩
        gi_wp2
        refine ⟨fun _ h => (by cases h), ?_⟩
        gi_wp2
        go_roundw
        case rel => exact ⟨k + 1, by omega, by go_num, by rw [HX.out]; exact hJs, HB.out⟩
        case measure => simp [intOf]; omega
      | true =>
        gi_wp2
        refine ⟨trivial, ?_⟩
        gi_wp2
        refine ⟨fun _ => by omega, (callsIn_wide.2 HBIT.out).mono ?_⟩
        rintro e w' ⟨rfl, rfl⟩
        gi_wp2
        refine ⟨fun _ => by omega, hR.mono ?_⟩
        rintro e W3 (⟨rfl, hJ3, hK3⟩ | ⟨rfl, hJx3⟩)
        · gi_wp2
          go_roundw
          case rel => exact ⟨k + 1, by omega, by go_num, by rw [HX.out]; exact hJ3, hK3 HB.out⟩
          case measure => simp [intOf]; omega
        · gi_wp2
          refine bodyPost_ret (results_none rfl _ _ _) rfl ?_
          refine ⟨⟨_, rfl⟩, .inr ⟨_, ?_, hJx3⟩⟩
          have := wthL_pre f (k + 1) 8 (by omega)
          rw [HX.out, if_pos (by simp)] at this
          exact this
    · obtain rfl : k = 8 := by omega
      have i0 : ¬ ((8 : Nat) : Int) < 8 := by omega
      gi_wp2
      go_end0
      first | exact ⟨⟨_, rfl⟩, .inl ⟨_, rfl, hJs⟩⟩ | exact ⟨⟨_, rfl⟩, .inl hJs⟩
end Go.Proofs.YtccimkmlbcgekaaGreat
namespace Go.Proofs.YtccimkmlbcgekaaGreat
open Go.RowKit Go.Shelf
set_option linter.unusedVariables false
set_option linter.unusedSimpArgs false
set_option maxRecDepth 100000
attribute [local go_sem] Oper.semAt_some
def wthV (bn : Nat) : Value := .func (.func 128) #[] #[.pointer (some ⟨bn, 0, none⟩)]
def WthR (m : Int) (w : World) (e : Ending) (w' : World) : Prop := ∃ bn, e = .returned (wthV bn) ∧ Blk w' bn 5 #[.int .u8 m] ∧ w.heap.size ≤ bn ∧ Below w.heap.size w w'
theorem mwithin_any (m : Int) (w : World) : Calls Tryz.prog 85 #[.int .u8 m] w (WthR m w) := by
  have hB : Below w.heap.size w (w.alloc (.cells #[.int .u8 m] 5)) := (Below.refl _ w).alloc (Nat.le_refl _) _
  have hb := Blk.new w 5 #[.int .u8 m]
  have HB := Lib.hid hB
  have H0 := Lib.hid hb
  clear hB hb
  go_enter Tryz.func85, Tryz.ntmps85
  go_wp2
  go_ret
  exact ⟨_, rfl, H0.out, Nat.le_refl _, HB.out⟩
/-- Pages of which those of a mask are in a bank. -/
def mvd (z : Nat → Int) (m b : Int) (i : Nat) : Int := if bitB m i = true then b else z i
def p8 (z : Nat → Int) : Array Value := #[.int .u8 (z 0), .int .u8 (z 1), .int .u8 (z 2), .int .u8 (z 3), .int .u8 (z 4), .int .u8 (z 5), .int .u8 (z 6), .int .u8 (z 7)]
theorem p8_i (z : Nat → Int) : p8 z = iArr .u8 8 z := rfl
/-- Those that have been moved so far. -/
def mvL (z : Nat → Int) (b : Int) (l : List (Fin 8)) (i : Nat) : Int := if l.any (fun x => x.val == i) then b else z i
theorem mvL_snoc (z : Nat → Int) (b : Int) (l : List (Fin 8)) (x : Fin 8) : (p8 (mvL z b l)).setIfInBounds x.val (.int .u8 b) = p8 (mvL z b (l ++ [x])) := by
  rw [p8_i, p8_i, iArr_set]
  exact iArr_congr fun i _ => by
    unfold mvL
    simp only [List.any_append, List.any_cons, List.any_nil, Bool.or_false]
    by_cases e : i = x.val
    · subst e; simp
    · have : (x.val == i) = false := by simp; omega
      rw [if_neg e, this, Bool.or_false]
theorem mvL_all (z : Nat → Int) (m b : Int) : p8 (mvL z b (wthL (fun i => bitB m i) 8)) = p8 (mvd z m b) := by
  rw [p8_i, p8_i]
  exact iArr_congr fun i hi => by
    unfold mvL mvd
    have : (wthL (fun i => bitB m i) 8).any (fun x => x.val == i) = bitB m i := by
      apply Bool.eq_iff_iff.2
      rw [List.any_eq_true]
      constructor
      · rintro ⟨x, hx, e⟩
        have := (wthL_mem _ 8 (by omega) x).1 hx
        have e : x.val = i := by simpa using e
        rw [← e]; exact this.2
      · intro h
        exact ⟨⟨i, hi⟩, (wthL_mem _ 8 (by omega) _).2 ⟨hi, h⟩, by simp⟩
    rw [this]
theorem info8 : (Tryz.prog.info? 68).map (·.size) = some 8 := by kernel_rfl
set_option maxHeartbeats 4000000 in
theorem moved_any (z : Nat → Int) (m b : Int) (w : World) : Calls Tryz.prog 86 #[.agg (p8 z), .int .u8 m, .int .u8 b] w fun e w' => e = .returned (.agg (p8 (mvd z m b))) ∧ Below w.heap.size w w' := by
  show Calls Tryz.prog 86 #[.agg #[.int .u8 (z 0), .int .u8 (z 1), .int .u8 (z 2), .int .u8 (z 3), .int .u8 (z 4), .int .u8 (z 5), .int .u8 (z 6), .int .u8 (z 7)], .int .u8 m, .int .u8 b] w _
  refine (callsIn_wide (n := 6)).1 ?_
  refine callsIn_of_wp_marks Tryz.func86 rfl trivial ?_ rfl
  simp only [Tryz.ntmps86, List.size_toArray, List.length_cons, List.length_nil, Nat.reduceAdd, Nat.reduceSub, Array.replicate_succ, Array.replicate_zero, List.push_toArray, List.append_toArray, List.nil_append, List.cons_append]
  gi_wp2
  refine ⟨trivial, callsIn_wide.2 ?_⟩
  have hB4 : Below w.heap.size w (((w.alloc (.cells #[.int .u8 (z 0), .int .u8 (z 1), .int .u8 (z 2), .int .u8 (z 3), .int .u8 (z 4), .int .u8 (z 5), .int .u8 (z 6), .int .u8 (z 7)] 68)).alloc (.cells #[.int .u8 b] 5)).alloc (.cells #[.int .u8 0, .int .u8 0, .int .u8 0, .int .u8 0, .int .u8 0, .int .u8 0, .int .u8 0, .int .u8 0] 68)) := (((Below.refl _ w).alloc (Nat.le_refl _) _).alloc (by simp) _).alloc (by simp; omega) _
  have b0 : Blk (((w.alloc (.cells #[.int .u8 (z 0), .int .u8 (z 1), .int .u8 (z 2), .int .u8 (z 3), .int .u8 (z 4), .int .u8 (z 5), .int .u8 (z 6), .int .u8 (z 7)] 68)).alloc (.cells #[.int .u8 b] 5)).alloc (.cells #[.int .u8 0, .int .u8 0, .int .u8 0, .int .u8 0, .int .u8 0, .int .u8 0, .int .u8 0, .int .u8 0] 68)) w.heap.size 68 (p8 (mvL z b [])) := Blk.alloc (Blk.alloc (Blk.new_ rfl) _) _
  have b1 : Blk (((w.alloc (.cells #[.int .u8 (z 0), .int .u8 (z 1), .int .u8 (z 2), .int .u8 (z 3), .int .u8 (z 4), .int .u8 (z 5), .int .u8 (z 6), .int .u8 (z 7)] 68)).alloc (.cells #[.int .u8 b] 5)).alloc (.cells #[.int .u8 0, .int .u8 0, .int .u8 0, .int .u8 0, .int .u8 0, .int .u8 0, .int .u8 0, .int .u8 0] 68)) (w.heap.size + 1) 5 #[.int .u8 b] := Blk.alloc (Blk.new_ (by simp)) _
  have b2 : Blk (((w.alloc (.cells #[.int .u8 (z 0), .int .u8 (z 1), .int .u8 (z 2), .int .u8 (z 3), .int .u8 (z 4), .int .u8 (z 5), .int .u8 (z 6), .int .u8 (z 7)] 68)).alloc (.cells #[.int .u8 b] 5)).alloc (.cells #[.int .u8 0, .int .u8 0, .int .u8 0, .int .u8 0, .int .u8 0, .int .u8 0, .int .u8 0, .int .u8 0] 68)) (w.heap.size + 1 + 1) 68 (p8 fun _ => 0) := Blk.new_ (by simp)
  have s4 : (((w.alloc (.cells #[.int .u8 (z 0), .int .u8 (z 1), .int .u8 (z 2), .int .u8 (z 3), .int .u8 (z 4), .int .u8 (z 5), .int .u8 (z 6), .int .u8 (z 7)] 68)).alloc (.cells #[.int .u8 b] 5)).alloc (.cells #[.int .u8 0, .int .u8 0, .int .u8 0, .int .u8 0, .int .u8 0, .int .u8 0, .int .u8 0, .int .u8 0] 68)).heap.size = w.heap.size + 3 := by simp
  generalize World.alloc _ _ = w4 at *
  refine (mwithin_any m w4).mono ?_
  rintro e w5 ⟨bn, rfl, hbn, hle, hB5⟩
  have B5 := hB4.trans (hB5.mono hB4.size)
  replace b0 := b0.below hB5 b0.lt
  replace b1 := b1.below hB5 b1.lt
  replace b2 := b2.below hB5 b2.lt
  have s5 := hB5.size
  unfold wthV
  gi_wp2
  refine wpIn_rangeFunc_ownF rfl (by omega) (gf := 128) (lb := #[.pointer (some ⟨bn, 0, none⟩)]) rfl trivial (enters_of Tryz.func128 (by kernel_rfl) rfl)
    (wth_stops 5 (by omega) bn m w5 hbn) (fun h k hb => k (h hb)) (fun W l o o' _ ho hc _ h => blk_put h ho hc) (Below.refl _ _) (fun _ => rfl)
    (fun pre W1 => (Blk W1 w.heap.size 68 (p8 (mvL z b pre)) ∧ Blk W1 (w.heap.size + 1) 5 #[.int .u8 b] ∧ Blk W1 (w.heap.size + 1 + 1) 68 (p8 fun _ => 0)) ∧ Below w.heap.size w W1)
    (fun c pre W1 => False ∧ Below w.heap.size w W1)
    (OwnFrom.and (I := fun pre W1 => Blk W1 w.heap.size 68 (p8 (mvL z b pre)) ∧ Blk W1 (w.heap.size + 1) 5 #[.int .u8 b] ∧ Blk W1 (w.heap.size + 1 + 1) 68 (p8 fun _ => 0)) (fun s A B row hs hg hr => ⟨mblk_own hs.1 hg (fun r e => (hr r e).2), mblk_own hs.2.1 hg (fun r e => (hr r e).2), mblk_own hs.2.2 hg (fun r e => (hr r e).2)⟩) (ownFrom_below (Nat.le_refl _) (by omega)))
    (fun c => OwnFrom.and (I := fun _ _ => False) (fun _ _ _ _ hs _ _ => hs) (ownFrom_below (Nat.le_refl _) (by omega)))
    ⟨⟨b0, b1, b2⟩, B5⟩
    (fun x => { tmps := #[.agg #[.int .u8 (z 0), .int .u8 (z 1), .int .u8 (z 2), .int .u8 (z 3), .int .u8 (z 4), .int .u8 (z 5), .int .u8 (z 6), .int .u8 (z 7)], .int .u8 m, .int .u8 b, .pointer (some ⟨w.heap.size, 0, none⟩), undef, .pointer (some ⟨w.heap.size + 1, 0, none⟩), .pointer (some ⟨w.heap.size + 1 + 1, 0, none⟩), .int .i64 (x.val : Int), .int .u8 m, .func (.func 128) #[] #[.pointer (some ⟨bn, 0, none⟩)], .int .i64 (x.val : Int), undef, undef, undef, undef], defers := [] }) ?assign ?body ?done ?stop
  case assign =>
    intro l x W1 K hK
    gi_wp2
    exact hK
  case body =>
    rintro l pre x W1 ⟨⟨h0, h1, h2⟩, hB⟩ _
    have c1 : W1.cell? ⟨w.heap.size + 1, 0, none⟩ = some (.int .u8 b) := h1.cell 0
    have hx8 := x.isLt
    have c0 : W1.cell? ⟨w.heap.size, x.val, none⟩ = some (.int .u8 (mvL z b pre x.val)) := by rw [h0.cell, p8_i, iArr_at .u8 8 _ _ hx8]
    have f0 := h0.frozen x.val
    have i0 : (0 : Int) ≤ (x.val : Int) := by omega
    have i1 : (x.val : Int) < 8 := by omega
    have H0 := Lib.hid h0
    have H1 := Lib.hid h1
    have H2 := Lib.hid h2
    have HSN := Lib.hid (mvL_snoc z b pre x)
    clear h0 h1 h2
    gi_wp2
    exact ⟨KeepsOthers.setCell _ _ _, fun h => h.far (p := ⟨w.heap.size, x.val, none⟩) (by simp; omega) _, ⟨HSN.out ▸ H0.out.set_ x.val (.int .u8 b), H1.out.far (p := ⟨w.heap.size, x.val, none⟩) (by simp) _, H2.out.far (p := ⟨w.heap.size, x.val, none⟩) (by simp; omega) _⟩, hB.setCell (p := ⟨w.heap.size, x.val, none⟩) (by simp) _⟩
  case done =>
    rintro D xs W1 hD rfl ⟨⟨h0, h1, h2⟩, hB⟩ hK
    rw [mvL_all] at h0
    have c0 : W1.cell? ⟨w.heap.size, 0, none⟩ = some (.int .u8 (mvd z m b 0)) := h0.cell 0
    have d0 : W1.cell? ⟨w.heap.size + 1 + 1, 0, none⟩ = some (.int .u8 0) := h2.cell 0
    have f0 := h2.frozen 0
    have c1 : W1.cell? ⟨w.heap.size, 1, none⟩ = some (.int .u8 (mvd z m b 1)) := h0.cell 1
    have d1 : W1.cell? ⟨w.heap.size + 1 + 1, 1, none⟩ = some (.int .u8 0) := h2.cell 1
    have f1 := h2.frozen 1
    have c2 : W1.cell? ⟨w.heap.size, 2, none⟩ = some (.int .u8 (mvd z m b 2)) := h0.cell 2
    have d2 : W1.cell? ⟨w.heap.size + 1 + 1, 2, none⟩ = some (.int .u8 0) := h2.cell 2
    have f2 := h2.frozen 2
    have c3 : W1.cell? ⟨w.heap.size, 3, none⟩ = some (.int .u8 (mvd z m b 3)) := h0.cell 3
    have d3 : W1.cell? ⟨w.heap.size + 1 + 1, 3, none⟩ = some (.int .u8 0) := h2.cell 3
    have f3 := h2.frozen 3
    have c4 : W1.cell? ⟨w.heap.size, 4, none⟩ = some (.int .u8 (mvd z m b 4)) := h0.cell 4
    have d4 : W1.cell? ⟨w.heap.size + 1 + 1, 4, none⟩ = some (.int .u8 0) := h2.cell 4
    have f4 := h2.frozen 4
    have c5 : W1.cell? ⟨w.heap.size, 5, none⟩ = some (.int .u8 (mvd z m b 5)) := h0.cell 5
    have d5 : W1.cell? ⟨w.heap.size + 1 + 1, 5, none⟩ = some (.int .u8 0) := h2.cell 5
    have f5 := h2.frozen 5
    have c6 : W1.cell? ⟨w.heap.size, 6, none⟩ = some (.int .u8 (mvd z m b 6)) := h0.cell 6
    have d6 : W1.cell? ⟨w.heap.size + 1 + 1, 6, none⟩ = some (.int .u8 0) := h2.cell 6
    have f6 := h2.frozen 6
    have c7 : W1.cell? ⟨w.heap.size, 7, none⟩ = some (.int .u8 (mvd z m b 7)) := h0.cell 7
    have d7 : W1.cell? ⟨w.heap.size + 1 + 1, 7, none⟩ = some (.int .u8 0) := h2.cell 7
    have f7 := h2.frozen 7
    have H2 := Lib.hid h2
    clear h0 h1 h2
    gi_wp2
    have hP : ∃ W2, put8 W1 (w.heap.size + 1 + 1) (fun i => .int .u8 (mvd z m b i)) = W2 := ⟨_, rfl⟩
    obtain ⟨W2, hW2⟩ := hP
    have HP2 : Blk W2 (w.heap.size + 1 + 1) 68 (p8 (mvd z m b)) := hW2 ▸ H2.out.put8 rfl (fun i => .int .u8 (mvd z m b i))
    have HB2 : Below w.heap.size w W2 := hW2 ▸ below8 hB (by omega) (fun i => .int .u8 (mvd z m b i))
    have HKO : KeepsOthers W1 W2 := hW2 ▸ (((((((KeepsOthers.setCell _ _ _).trans (KeepsOthers.setCell _ _ _)).trans (KeepsOthers.setCell _ _ _)).trans (KeepsOthers.setCell _ _ _)).trans (KeepsOthers.setCell _ _ _)).trans (KeepsOthers.setCell _ _ _)).trans (KeepsOthers.setCell _ _ _)).trans (KeepsOthers.setCell _ _ _)
    unfold put8 put4 at hW2
    rw [hW2]
    have hK' := HKO.same D _ hK rfl
    refine ⟨by simp, .inl ⟨_, _, rfl, run_takeDeferred hK', ?_⟩⟩
    exact ⟨_, results_cell (a := ⟨w.heap.size + 1 + 1, 0, none⟩) Tryz.results86 (by rfl) ((blk_put HP2 hK' rfl).run_load Tryz.underlying68 rfl info8), rfl, HB2.trans (belowK_b (w := w) (Nat.le_refl _) W2 D _ _ (by omega) hK' rfl rfl)⟩
  case stop =>
    rintro D c pre W1 hD _ h _
    exact h.1.elim
end Go.Proofs.YtccimkmlbcgekaaGreat
