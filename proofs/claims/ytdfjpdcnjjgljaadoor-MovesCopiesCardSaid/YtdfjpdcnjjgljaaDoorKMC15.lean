/-
  Texts of these proofs, one behind the other: Mov2, Mov3.
-/
import Derived.Test.YtdfjpdcnjjgljaaDoorKMC13
import Derived.Test.YtdfjpdcnjjgljaaDoorKMC14
import Derived.RangeFuncFrom
import Derived.RangeFuncGives
import Derived.OwnWalkIn
import Derived.TacticsInMore
import Derived.RegionIn
import Derived.LoopNIn
import Derived.LoopIn
import Derived.Sort.LoopGhostIn
import Derived.Sort.CutIn
import Derived.Sort.QuietIn
import Derived.Shelf.RegionOpen
import Derived.Shelf.AbstractIn
import Derived.RangeFuncBox
import Derived.Maps.AppendAt
namespace Go.Proofs.YtdfjpdcnjjgljaaDoor
open Go.RowKit Go.Shelf
set_option linter.unusedVariables false
set_option linter.unusedSimpArgs false
set_option maxRecDepth 100000
attribute [local go_sem] Oper.semAt_some
/-- The numbers of the bytes that are moved, up to one. -/
def wayL (k q : Nat) : List Nat := if k < 5 then List.range q else []
theorem wayL_len (k q : Nat) : (wayL k q).length ≤ q := by unfold wayL; split <;> simp
theorem wayL_snoc (k q : Nat) (h : k < 5) : wayL k (q + 1) = wayL k q ++ [q] := by unfold wayL; rw [if_pos h, if_pos h, List.range_succ]
theorem wayL_pre (k q r : Nat) (h : q ≤ r) : wayL k q <+: wayL k r := by
  unfold wayL
  split
  · obtain ⟨d, rfl⟩ : ∃ d, r = q + d := ⟨r - q, by omega⟩
    rw [List.range_add]
    exact List.prefix_append _ _
  · exact List.prefix_rfl
theorem vgrown_of_below {w w' : World} (h : Below w.heap.size w w') : w.grownBy w' none := ⟨h.os, h.tape, h.output, h.size, fun k hk _ => h.block k hk⟩
/-- The four cells that the iterator reads. -/
def Way4 (W : World) (bl bk bf bt : Nat) (l k f t : Int) : Prop := Blk W bl 22 #[.int .u16 l] ∧ Blk W bk 5 #[.int .u8 k] ∧ Blk W bf 22 #[.int .u16 f] ∧ Blk W bt 22 #[.int .u16 t]
def KpW (bl bk bf bt : Nat) (l k f t : Int) (A B : World) : Prop := Way4 A bl bk bf bt l k f t → Way4 B bl bk bf bt l k f t
theorem Way4.below {W W' : World} {bl bk bf bt B : Nat} {l k f t : Int} (h : Way4 W bl bk bf bt l k f t) (hb : Below B W W') (hB : bl < B ∧ bk < B ∧ bf < B ∧ bt < B) : Way4 W' bl bk bf bt l k f t :=
  ⟨h.1.below hb hB.1, h.2.1.below hb hB.2.1, h.2.2.1.below hb hB.2.2.1, h.2.2.2.below hb hB.2.2.2⟩
theorem Way4.lt {W : World} {bl bk bf bt : Nat} {l k f t : Int} (h : Way4 W bl bk bf bt l k f t) : bl < W.heap.size ∧ bk < W.heap.size ∧ bf < W.heap.size ∧ bt < W.heap.size := ⟨h.1.lt, h.2.1.lt, h.2.2.1.lt, h.2.2.2.lt⟩
def wayA (k : Nat) (f t : Int) (x : Nat) : Array Value := #[.agg #[.int .u16 (mvF k f x), .int .u16 (mvT k t x)]]
set_option maxHeartbeats 8000000 in
theorem ways_stops (n : Nat) (hn : 2 ≤ n) (bl bk bf bt k : Nat) (f t l : Int) (f0 : 0 ≤ f) (f1 : f ≤ 65535) (t0 : 0 ≤ t) (t1 : t ≤ 65535) (l0 : 0 ≤ l) (l1 : l ≤ 65535) (w : World) (hb : Way4 w bl bk bf bt l (k : Int) f t) :
    SeqStopsK Fence.wide n Tryd.prog 63 #[.pointer (some ⟨bl, 0, none⟩), .pointer (some ⟨bk, 0, none⟩), .pointer (some ⟨bf, 0, none⟩), .pointer (some ⟨bt, 0, none⟩)] (wayA k f t) (KpW bl bk bf bt l (k : Int) f t) (fun xs => xs = wayL k (cntP l).toNat) (fun pre => pre <+: wayL k (cntP l).toNat) 65536 w := fun L J Jx W hW hJ hJx hY h0 => by
  have hw4 := hb.below hW hb.lt
  have H4 := Lib.hid hw4
  have cl : W.cell? ⟨bl, 0, none⟩ = some (.int .u16 l) := hw4.1.cell 0
  obtain ⟨c0, c1⟩ := cntP_bd l l0 l1
  have hC := fun W => vcount_any l l0 l1 W
  obtain ⟨c, hc⟩ : ∃ c, cntP l = c := ⟨_, rfl⟩
  rw [hc] at hC c0 c1 ⊢
  clear hc hb hW hw4
  refine callsIn_of_wp Tryd.func63 rfl trivial ?_ rfl
  simp only [Tryd.ntmps63, List.size_toArray, List.length_cons, List.length_nil, Nat.reduceAdd, Nat.reduceSub, Array.replicate_succ, Array.replicate_zero, List.push_toArray, List.append_toArray, List.nil_append, List.cons_append]
  gi_wp2
  first | refine ⟨trivial, callsIn_wide.2 ?_⟩ | refine ⟨trivial, fun _ => by omega, callsIn_wide.2 ?_⟩
  refine (hC _).mono ?_
  rintro e w' ⟨rfl, rfl⟩
  gi_wp2
  gi_loopw [11] (fun i wr => ∃ q : Nat, (q : Int) ≤ c ∧ (k < 5 ∨ q = 0) ∧ i = .int .i64 q ∧ J (wayL k q) wr ∧ Way4 wr bl bk bf bt l (k : Int) f t) (fun i wr => c.toNat - (intOf i).toNat)
  case atStart =>
    exact ⟨0, by omega, .inr rfl, rfl, by rw [show wayL k 0 = [] by unfold wayL; simp]; exact h0, H4.out⟩
  case round =>
    obtain ⟨q, hq, hk5, rfl, hJs, hB⟩ := hrel
    by_cases hlt : (q : Int) < c
    · have i1 : (0 : Int) ≤ (q : Int) := by omega
      have d1 : wr.cell? ⟨bk, 0, none⟩ = some (.int .u8 (k : Int)) := hB.2.1.cell 0
      have d2 : wr.cell? ⟨bf, 0, none⟩ = some (.int .u16 f) := hB.2.2.1.cell 0
      have d3 : wr.cell? ⟨bt, 0, none⟩ = some (.int .u16 t) := hB.2.2.2.cell 0
      have HB := Lib.hid hB
      have hA := fun W => vat_any k f t (q : Int) f0 f1 t0 t1 (by omega) (by omega) W
      clear hB cl hC
      by_cases hk : k < 5
      · unfold atV at hA
        rw [if_pos ⟨hk, i1⟩] at hA
        obtain ⟨x, hx⟩ : ∃ x, mvF k f (q : Int) = x := ⟨_, rfl⟩
        obtain ⟨y, hy⟩ : ∃ y, mvT k t (q : Int) = y := ⟨_, rfl⟩
        have hwa : wayA k f t q = #[.agg #[.int .u16 x, .int .u16 y]] := by unfold wayA; rw [hx, hy]
        rw [hx, hy] at hA
        have HWA := Lib.hid hwa
        clear hx hy hwa
        gi_wp2
        first | refine ⟨trivial, callsIn_wide.2 ?_⟩ | refine ⟨trivial, fun _ => by omega, callsIn_wide.2 ?_⟩
        refine (hA _).mono ?_
        rintro e W2 ⟨rfl, b2⟩
        have b3 : Below wr.heap.size wr (W2.alloc (.cells #[.int .u16 x, .int .u16 y] 48)) := b2.alloc b2.size _
        have hJ2 := hJ _ _ _ none hJs (vgrown_of_below b3) (fun r h => by cases h)
        obtain ⟨fn, tmps, assign, body, hy, hR⟩ := hY (wayL k q) q _ hJ2 (by have := wayL_len k q; omega)
        rw [HWA.out] at hy
        try dsimp only at hy
        have HW4 := Lib.hid (HB.out.below b3 HB.out.lt)
        gi_wp2
        first | refine hR.mono ?_ | refine ⟨fun _ => by omega, hR.mono ?_⟩
        rintro e W3 (⟨rfl, hJ3, hK3⟩ | ⟨rfl, hJx3⟩)
        · gi_wp2
          go_roundw
          case rel => exact ⟨q + 1, by omega, .inl hk, by go_num, by rw [wayL_snoc k q hk]; exact hJ3, hK3 HW4.out⟩
          case measure => simp [intOf]; omega
        · gi_wp2
          refine bodyPost_ret (results_none rfl _ _ _) rfl ?_
          refine ⟨⟨_, rfl⟩, .inr ⟨_, ?_, hJx3⟩⟩
          have := wayL_pre k (q + 1) c.toNat (by omega)
          rw [wayL_snoc k q hk] at this
          exact this
      · obtain rfl : q = 0 := by omega
        unfold atV at hA
        rw [if_neg (by omega)] at hA
        have hw0 : wayL k 0 = [] := by unfold wayL; simp
        have hwc : wayL k c.toNat = [] := by unfold wayL; rw [if_neg hk]
        gi_wp2
        first | refine ⟨trivial, callsIn_wide.2 ?_⟩ | refine ⟨trivial, fun _ => by omega, callsIn_wide.2 ?_⟩
        refine (hA _).mono ?_
        rintro e W2 ⟨rfl, b2⟩
        have b3 : Below wr.heap.size wr (W2.alloc (.cells #[.int .u16 0, .int .u16 0] 48)) := b2.alloc b2.size _
        have hJ2 := hJ _ _ _ none hJs (vgrown_of_below b3) (fun r h => by cases h)
        gi_wp2
        try (refine ⟨fun _ h => (by cases h), ?_⟩; gi_wp2)
        refine bodyPost_ret (results_none rfl _ _ _) rfl ?_
        refine ⟨⟨_, rfl⟩, .inl ?_⟩
        rw [hw0] at hJ2
        first | exact hJ2 | (rw [hwc]; exact hJ2) | exact ⟨_, hwc.symm, hJ2⟩
    · obtain rfl : c = (q : Int) := by omega
      have i0 : ¬ ((q : Nat) : Int) < q := by omega
      gi_wp2
      go_end0
      first | exact ⟨⟨_, rfl⟩, .inl ⟨_, rfl, hJs⟩⟩ | exact ⟨⟨_, rfl⟩, .inl hJs⟩
end Go.Proofs.YtdfjpdcnjjgljaaDoor
namespace Go.Proofs.YtdfjpdcnjjgljaaDoor
open Go.RowKit Go.Shelf
set_option linter.unusedVariables false
set_option linter.unusedSimpArgs false
set_option maxRecDepth 100000
attribute [local go_sem] Oper.semAt_some
def wayV (bl bk bf bt : Nat) : Value := .func (.func 63) #[] #[.pointer (some ⟨bl, 0, none⟩), .pointer (some ⟨bk, 0, none⟩), .pointer (some ⟨bf, 0, none⟩), .pointer (some ⟨bt, 0, none⟩)]
def WayR (l k f t : Int) (w : World) (e : Ending) (w' : World) : Prop := ∃ bl bk bf bt, e = .returned (wayV bl bk bf bt) ∧ Way4 w' bl bk bf bt l k f t ∧ w.heap.size ≤ bl ∧ w.heap.size ≤ bk ∧ w.heap.size ≤ bf ∧ w.heap.size ≤ bt ∧ Below w.heap.size w w'
set_option maxHeartbeats 4000000 in
theorem vways_any (l k f t : Int) (w : World) : Calls Tryd.prog 53 #[.int .u8 k, .int .u16 f, .int .u16 t, .int .u16 l] w (WayR l k f t w) := by
  have hB : Below w.heap.size w ((((w.alloc (.cells #[.int .u8 k] 5)).alloc (.cells #[.int .u16 f] 22)).alloc (.cells #[.int .u16 t] 22)).alloc (.cells #[.int .u16 l] 22)) := ((((Below.refl _ w).alloc (Nat.le_refl _) _).alloc (by simp) _).alloc (by simp; omega) _).alloc (by simp; omega) _
  have h4 : Way4 ((((w.alloc (.cells #[.int .u8 k] 5)).alloc (.cells #[.int .u16 f] 22)).alloc (.cells #[.int .u16 t] 22)).alloc (.cells #[.int .u16 l] 22)) (w.heap.size + 1 + 1 + 1) w.heap.size (w.heap.size + 1) (w.heap.size + 1 + 1) l k f t :=
    ⟨Blk.new_ (by simp), (((Blk.new w _ _).alloc _).alloc _).alloc _, ((Blk.new_ (by simp)).alloc _).alloc _, (Blk.new_ (by simp)).alloc _⟩
  have HB := Lib.hid hB
  have H4 := Lib.hid h4
  clear hB h4
  go_enter Tryd.func53, Tryd.ntmps53
  go_wp2
  go_ret
  exact ⟨_, _, _, _, rfl, H4.out, by omega, by omega, by omega, by omega, HB.out⟩
/-- The cells of a row of ways. -/
def wyV (k : Nat) (f t : Int) (l : List Nat) : List Value := l.flatMap fun (x : Nat) => [.int .u16 (mvF k f (x : Int)), .int .u16 (mvT k t (x : Int))]
theorem wyV_snoc (k : Nat) (f t : Int) (l : List Nat) (x : Nat) : wyV k f t (l ++ [x]) = wyV k f t l ++ [.int .u16 (mvF k f (x : Int)), .int .u16 (mvT k t (x : Int))] := by simp [wyV]
def AllR (k : Nat) (f t l : Int) (w : World) (e : Ending) (w' : World) : Prop := ∃ v, e = .returned v ∧ w'.ownsRow w.heap.size 48 2 v (wayL k (cntP l).toNat).length (wyV k f t (wayL k (cntP l).toNat)) ∧ Below w.heap.size w w'
theorem mv_info : (Tryd.prog.info? 48).map (fun i => (i.zero, i.size, i.bytes)) = some (some (.agg #[.int .u16 0, .int .u16 0]), 2, 4) := by kernel_rfl
theorem cells_two_new (w : World) (x y : Value) (t : TypeId) : ∀ j u, [x, y][j]? = some u → (w.alloc (.cells #[x, y] t)).cell? ((⟨w.heap.size, 0, none⟩ : Addr).add j) = some u := by
  intro j u h
  rw [add_zero_block, (Blk.new w t #[x, y]).cell j]
  rcases j with _ | _ | j
  · exact h
  · exact h
  · simp at h
set_option maxHeartbeats 8000000 in
theorem vall_any (k : Nat) (f t l : Int) (f0 : 0 ≤ f) (f1 : f ≤ 65535) (t0 : 0 ≤ t) (t1 : t ≤ 65535) (l0 : 0 ≤ l) (l1 : l ≤ 65535) (w : World) :
    Calls Tryd.prog 29 #[.int .u8 (k : Int), .int .u16 f, .int .u16 t, .int .u16 l] w (AllR k f t l w) := by
  unfold AllR
  refine (callsIn_wide (n := 6)).1 ?_
  refine callsIn_of_wp_marks Tryd.func29 rfl trivial ?_ rfl
  simp only [Tryd.ntmps29, List.size_toArray, List.length_cons, List.length_nil, Nat.reduceAdd, Nat.reduceSub, Array.replicate_succ, Array.replicate_zero, List.push_toArray, List.append_toArray, List.nil_append, List.cons_append]
  gi_wp2
  refine ⟨trivial, callsIn_wide.2 ?_⟩
  have hB4 : Below w.heap.size w (w.alloc (.cells #[.slice none 0 0] 51)) := (Below.refl _ w).alloc (Nat.le_refl _) _
  have b1 : Boxed (w.alloc (.cells #[.slice none 0 0] 51)) w.heap.size 51 (.slice none 0 0) := Blk.new_ (by simp)
  have s4 : (w.alloc (.cells #[.slice none 0 0] 51)).heap.size = w.heap.size + 1 := by simp
  generalize World.alloc _ _ = w4 at *
  refine (vways_any l k f t w4).mono ?_
  rintro e w5 ⟨bl, bk, bf, bt, rfl, h4, e1, e2, e3, e4, hB5⟩
  have B5 := hB4.trans (hB5.mono hB4.size)
  have b5 : Boxed w5 w.heap.size 51 (.slice none 0 0) := Blk.below b1 hB5 (by omega)
  have s5 := hB5.size
  have HB5 := Lib.hid hB5
  clear hB5 b1
  unfold wayV
  gi_wp2
  refine wpIn_rangeFunc_ownH rfl (by omega) (gf := 63) (lb := #[.pointer (some ⟨bl, 0, none⟩), .pointer (some ⟨bk, 0, none⟩), .pointer (some ⟨bf, 0, none⟩), .pointer (some ⟨bt, 0, none⟩)]) rfl trivial (enters_of Tryd.func63 (by kernel_rfl) rfl)
    (ways_stops 5 (by omega) bl bk bf bt k f t l f0 f1 t0 t1 l0 l1 w5 h4) (fun h q hb => q (h hb)) (fun W l o o' _ ho hc _ h => ⟨blk_put h.1 ho hc, blk_put h.2.1 ho hc, blk_put h.2.2.1 ho hc, blk_put h.2.2.2 ho hc⟩) (Below.refl _ _) (fun _ => rfl)
    (fun pre W1 => (∃ v, Boxed W1 w.heap.size 51 v ∧ W1.ownsRow w.heap.size 48 2 v pre.length (wyV k f t pre) ∧ True) ∧ Below w.heap.size w W1)
    (fun c pre W1 => False)
    (OwnFrom.and (I := fun pre W1 => (∃ v, Boxed W1 w.heap.size 51 v ∧ W1.ownsRow w.heap.size 48 2 v pre.length (wyV k f t pre) ∧ True)) (fun z X Y row hs hg hr => holdsRow_own w.heap.size w.heap.size 51 48 2 (fun pre => pre.length) (wyV k f t) (fun _ _ => True) z X Y row hs hg (fun r e => (hr r e).2)) (ownFrom_below (Nat.le_refl _) (by omega)))
    (fun _ _ _ _ _ hs _ _ => hs)
    ⟨⟨.slice none 0 0, b5, World.ownsRow_nil _ _ _ _, trivial⟩, B5⟩
    (fun x a' W => ∃ Bx, w.heap.size < Bx ∧ Blk W Bx 48 #[.int .u16 (mvF k f (x : Int)), .int .u16 (mvT k t (x : Int))] ∧ a' = { tmps := #[.int .u8 (k : Int), .int .u16 f, .int .u16 t, .int .u16 l, undef, undef, undef, undef, .slice none 0 0, .pointer (some ⟨w.heap.size, 0, none⟩), .pointer (some ⟨Bx, 0, none⟩), .int .u8 (k : Int), .int .u16 f, .int .u16 t, .int .u16 l, .func (.func 63) #[] #[.pointer (some ⟨bl, 0, none⟩), .pointer (some ⟨bk, 0, none⟩), .pointer (some ⟨bf, 0, none⟩), .pointer (some ⟨bt, 0, none⟩)], .agg #[.int .u16 (mvF k f (x : Int)), .int .u16 (mvT k t (x : Int))], undef, undef, undef, undef, undef], defers := [] })
    (fun x a' _ X Y row hs hg hr => by obtain ⟨Bx, h1, h2, h3⟩ := hs; exact ⟨Bx, h1, mblk_own h2 hg (fun r e => (hr r e).2), h3⟩)
    ?assign ?body ?done ?stop
  case assign =>
    rintro l pre x W K ⟨⟨v, hv, hrw, -⟩, hB1⟩ hK
    have hs1 := Boxed.lt hv
    unfold wayA
    gi_wp2
    exact hK _ _ ((KeepsOthers.alloc _ _).from _) (fun h => ⟨h.1.alloc _, h.2.1.alloc _, h.2.2.1.alloc _, h.2.2.2.alloc _⟩) ⟨⟨v, hv.alloc _, hrw.alloc _, trivial⟩, hB1.alloc hB1.size _⟩ ⟨W.heap.size, by first | exact hs1 | omega, Blk.new W _ _, rfl⟩
  case body =>
    rintro l2 pre x a' W1 hl ⟨r, hr⟩ ⟨⟨v, hv, hrw, -⟩, hB1⟩ ⟨Bx, hBx, bX, rfl⟩ hlt
    have cv := hv.cell
    have d0 : W1.cell? ⟨Bx, 0, none⟩ = some (.int .u16 (mvF k f (x : Int))) := bX.cell 0
    have d1 : W1.cell? ⟨Bx, 1, none⟩ = some (.int .u16 (mvT k t (x : Int))) := bX.cell 1
    obtain ⟨i0, hi, hz0, hz1, hz2⟩ := info_parts mv_info
    have hbs := hB1.size
    have EY := Lib.hid (wyV_snoc k f t pre x)
    generalize mvF k f (x : Int) = p at *
    generalize mvT k t (x : Int) = q at *
    gi_wp2_with (gi_at_builtin; refine wpListIn_append_own _ rfl _ _ 51 rfl w.heap.size 48 i0 (.agg #[.int .u16 0, .int .u16 0]) 2 4 Tryd.underlying51 hi hz0 hz1 hz2 rfl (by decide) _ _ _ rfl (hrw.alloc _) ⟨W1.heap.size, 0, none⟩ 1 1 [.int .u16 p, .int .u16 q] rfl rfl (cells_two_new _ _ _ _) (by intro u hu; simp at hu; rcases hu with rfl | rfl <;> rfl) (by unfold maxLen; omega) (by omega) (by simp; omega) ?_; intro v' w1 hown' hgrow _; obtain ⟨g', cap', rfl⟩ := ownsRow_succ hown'; obtain ⟨hv1, hv2, hr2, hk2, hb2⟩ := hv.appended (by decide) hrw hbs (by omega) hown' hgrow; have hc1 := hv1.cell; have hf1 := hv1.frozen)
    have far : ∀ {b : Nat} {ty : TypeId} {cs : Array Value}, Blk W1 b ty cs → ty ≠ 48 → b ≠ w.heap.size → Blk (w1.setCell ⟨w.heap.size, 0, none⟩ (.slice (some ⟨g', 0, none⟩) (pre.length + 1) cap')) b ty cs := fun {b ty cs} h hty hb => by
      have q1 := h.alloc (.cells #[.int .u16 p, .int .u16 q] 48)
      exact Blk.far (p := ⟨w.heap.size, 0, none⟩) ((hgrow.block _ q1.lt (blk_not_row q1 hty (hrw.alloc _))).trans q1) (by simpa using hb) _
    exact ⟨hk2.from _, fun h => ⟨far h.1 (by decide) (by omega), far h.2.1 (by decide) (by omega), far h.2.2.1 (by decide) (by omega), far h.2.2.2 (by decide) (by omega)⟩, ⟨_, hv2, by rw [EY.out, List.length_append, List.length_singleton]; exact hr2, trivial⟩, hB1.trans hb2⟩
  case done =>
    rintro D xs W1 hD rfl ⟨⟨v, hv, hrw, -⟩, hB1⟩ hK
    have cv := hv.cell
    have HR := Lib.hid hrw
    clear hrw
    gi_wp2
    refine ⟨by simp, .inl ⟨_, _, rfl, run_takeDeferred hK, ?_⟩⟩
    exact ⟨_, results_tmp rfl _ _ _, ⟨_, rfl, ownsRow_putObj HR.out _ hK rfl, hB1.trans (belowK_b (w := w) (Nat.le_refl _) _ D _ _ (by omega) hK rfl rfl)⟩⟩
  case stop =>
    rintro D c pre W1 hD hpre h hK
    exact h.elim
end Go.Proofs.YtdfjpdcnjjgljaaDoor
