/-
  Opcode: Modes and Names.
-/
import Derived.Test.YtleofglnlfpoeaaDoorOpc6
import Derived.Test.YtleofglnlfpoeaaDoorSrt1
import Derived.Test.YtleofglnlfpoeaaDoorSh3
import Derived.Test.YtleofglnlfpoeaaDoorSh4
import Derived.RangeFuncBox
import Derived.Maps.AppendAt
import Derived.Test.YtleofglnlfpoeaaDoorG28
namespace Go.Proofs.YtleofglnlfpoeaaDoor
open Go.RowKit Go.Shelf Go.Sort
set_option linter.unusedVariables false
set_option linter.unusedSimpArgs false
set_option maxRecDepth 100000
attribute [local go_sem] Oper.semAt_some
/-- The modes of those that have a name. -/
def mdL (s : List UInt8) (l : List (Fin 256)) : List Int := (l.filter fun x => opN x.val == s).map fun x => (opM x.val : Int)
def mdV (s : List UInt8) (l : List (Fin 256)) : List Value := (mdL s l).map (Value.int .u8)
theorem mdV_no (s : List UInt8) (l : List (Fin 256)) (x : Fin 256) (h : (opN x.val == s) = false) : mdV s (l ++ [x]) = mdV s l := by
  unfold mdV mdL; rw [List.filter_append]; simp [h]
theorem mdV_yes (s : List UInt8) (l : List (Fin 256)) (x : Fin 256) (h : (opN x.val == s) = true) : mdV s (l ++ [x]) = mdV s l ++ [.int .u8 (opM x.val : Int)] := by
  unfold mdV mdL; rw [List.filter_append]; simp [h]
theorem mdV_len (s : List UInt8) (l : List (Fin 256)) : (mdV s l).length ≤ l.length := by
  unfold mdV mdL; rw [List.length_map, List.length_map]; exact List.length_filter_le _ _
def nmV (l : List (Fin 256)) : List Value := l.map fun x => .string (mkS (opN x.val))
def nmL (l : List (Fin 256)) : List (List UInt8) := l.map fun x => opN x.val
theorem nmL_some : nmL (knL 256) ≠ [] := by decide +kernel
/-- All names, rising, each once. -/
def allN : List (List UInt8) := Lib.compact ((nmL (knL 256)).mergeSort fun x y => decide (x ≤ y))
theorem md_fin : ∀ b : Fin 256, (((List.range 256).filter fun i => opK i).filter fun i => opN i == opN b.val).length ≤ 12 := by decide +kernel
theorem knL_map : ∀ k, k ≤ 256 → (knL k).map (fun x => x.val) = (List.range k).filter fun i => opK i
  | 0, _ => rfl
  | k + 1, h => by
    have ih := knL_map k (by omega)
    rw [List.range_succ, List.filter_append, ← ih]
    simp only [knL]
    rw [dif_pos (by omega)]
    by_cases hk : opK k = true
    · rw [if_pos hk]; simp [hk]
    · rw [if_neg hk]; simp [hk]
theorem mdL_map (s : List UInt8) : mdL s (knL 256) = (((List.range 256).filter fun i => opK i).filter fun i => opN i == s).map fun i => (opM i : Int) := by
  unfold mdL
  rw [← knL_map 256 (by omega), List.filter_map, List.map_map]
  rfl
theorem mdL_12 (s : List UInt8) : (mdL s (knL 256)).length ≤ 12 := by
  rw [mdL_map, List.length_map]
  rcases hq : (((List.range 256).filter fun i => opK i).filter fun i => opN i == s) with _ | ⟨x, r⟩
  · simp
  · have hx : x ∈ ((List.range 256).filter fun i => opK i).filter fun i => opN i == s := by rw [hq]; simp
    rw [List.mem_filter, List.mem_filter] at hx
    have h256 : x < 256 := by simpa using hx.1.1
    have := md_fin ⟨x, h256⟩
    have hs : opN x = s := by simpa using hx.2
    dsimp only at this
    rw [hs, hq] at this
    exact this
theorem nmV_snoc (l : List (Fin 256)) (x : Fin 256) : nmV (l ++ [x]) = nmV l ++ [.string (mkS (opN x.val))] := by simp [nmV]
theorem nmV_len (l : List (Fin 256)) : (nmV l).length = l.length := by simp [nmV]
set_option maxHeartbeats 8000000 in
theorem omodes_any (s : ByteArray) (w : World) :
    Calls Tryd.prog 18 #[.string s] w fun e w' => ∃ v, e = .returned v ∧ w'.ownsRow w.heap.size 5 1 v (mdL s.toList (knL 256)).length ((sortL (mdL s.toList (knL 256))).map (Value.int .u8)) ∧ Below w.heap.size w w' := by
  obtain ⟨zs, hzs⟩ : ∃ zs, mdL s.toList (knL 256) = zs := ⟨_, rfl⟩
  rw [hzs]
  have HZS := Lib.hid hzs
  clear hzs
  refine (callsIn_wide (n := 6)).1 ?_
  refine callsIn_of_wp_marks Tryd.func18 rfl trivial ?_ rfl
  simp only [Tryd.ntmps18, List.size_toArray, List.length_cons, List.length_nil, Nat.reduceAdd, Nat.reduceSub, Array.replicate_succ, Array.replicate_zero, List.push_toArray, List.append_toArray, List.nil_append, List.cons_append]
  gi_wp2
  refine ⟨trivial, callsIn_wide.2 ?_⟩
  have hB4 : Below w.heap.size w ((w.alloc (.cells #[.string s] 9)).alloc (.cells #[.slice none 0 0] 33)) := ((Below.refl _ w).alloc (Nat.le_refl _) _).alloc (by simp) _
  have b0 : Blk ((w.alloc (.cells #[.string s] 9)).alloc (.cells #[.slice none 0 0] 33)) w.heap.size 9 #[.string s] := (Blk.new w _ _).alloc _
  have b1 : Boxed ((w.alloc (.cells #[.string s] 9)).alloc (.cells #[.slice none 0 0] 33)) (w.heap.size + 1) 33 (.slice none 0 0) := Blk.new_ (by simp)
  have s4 : ((w.alloc (.cells #[.string s] 9)).alloc (.cells #[.slice none 0 0] 33)).heap.size = w.heap.size + 2 := by simp
  generalize World.alloc _ _ = w4 at *
  refine (knownit_any w4).mono ?_
  rintro e w5 ⟨rfl, rfl⟩
  gi_wp2
  refine wpIn_rangeFunc_ownH rfl (by omega) (gf := 85) (lb := #[]) rfl trivial (enters_of Tryd.func85 (by kernel_rfl) rfl)
    (known_stops 5 (by omega) w4) (fun _ _ => trivial) (fun _ _ _ _ _ _ _ _ => trivial) (Below.refl _ _) (fun _ => rfl)
    (fun pre W1 => ((∃ v, Boxed W1 (w.heap.size + 1) 33 v ∧ W1.ownsRow w.heap.size 5 1 v (mdV s.toList pre).length (mdV s.toList pre) ∧ True) ∧ Blk W1 w.heap.size 9 #[.string s]) ∧ Below w.heap.size w W1)
    (fun c pre W1 => False)
    (OwnFrom.and (I := fun pre W1 => (∃ v, Boxed W1 (w.heap.size + 1) 33 v ∧ W1.ownsRow w.heap.size 5 1 v (mdV s.toList pre).length (mdV s.toList pre) ∧ True) ∧ Blk W1 w.heap.size 9 #[.string s]) (fun z X Y row hs hg hr => ⟨holdsRow_own w.heap.size (w.heap.size + 1) 33 5 1 (fun pre => (mdV s.toList pre).length) (mdV s.toList) (fun _ _ => True) z X Y row hs.1 hg (fun r e => (hr r e).2), mblk_own hs.2 hg (fun r e => (hr r e).2)⟩) (ownFrom_below (Nat.le_refl _) (by omega)))
    (fun _ _ _ _ _ hs _ _ => hs)
    ⟨⟨⟨.slice none 0 0, b1, World.ownsRow_nil _ _ _ _, trivial⟩, b0⟩, hB4⟩
    (fun x a' W => ∃ Bx, w.heap.size + 1 < Bx ∧ Blk W Bx 24 #[.string (mkS (opN x.val)), .int .u8 (opM x.val : Int), .int .i64 (opZ x.val), .int .i64 (opY x.val : Int)] ∧ a' = { tmps := #[.string s, .pointer (some ⟨w.heap.size, 0, none⟩), .slice none 0 0, .pointer (some ⟨w.heap.size + 1, 0, none⟩), undef, .pointer (some ⟨Bx, 0, none⟩), .func (.func 85) #[] #[], .int .u8 (x.val : Int), opV x.val, undef, undef, undef, undef, undef, undef, undef, undef, undef, undef, undef, undef], defers := [] })
    (fun x a' _ X Y row hs hg hr => by obtain ⟨Bx, h1, h2, h3⟩ := hs; exact ⟨Bx, h1, mblk_own h2 hg (fun r e => (hr r e).2), h3⟩)
    ?assign ?body ?done ?stop
  case assign =>
    rintro l pre x W K ⟨⟨⟨v, hv, hrw, -⟩, h0⟩, hB1⟩ hK
    have hs1 := Boxed.lt hv
    unfold opV
    gi_wp2
    exact hK _ _ ((KeepsOthers.alloc _ _).from _) trivial ⟨⟨⟨v, hv.alloc _, hrw.alloc _, trivial⟩, h0.alloc _⟩, hB1.alloc hB1.size _⟩ ⟨W.heap.size, by first | exact hs1 | omega, Blk.new W _ _, rfl⟩
  case body =>
    rintro l pre x a' W1 hl ⟨r, hr⟩ ⟨⟨⟨v, hv, hrw, -⟩, h0⟩, hB1⟩ ⟨Bx, hBx, bX, rfl⟩ hlt
    have cv := hv.cell
    have d0 : W1.cell? ⟨Bx, 0, none⟩ = some (.string (mkS (opN x.val))) := bX.cell 0
    have d1 : W1.cell? ⟨Bx, 1, none⟩ = some (.int .u8 (opM x.val : Int)) := bX.cell 1
    have infoE : (Tryd.prog.info? 5).map (fun i => (i.zero, i.size, i.bytes)) = some (some (.int .u8 0), 1, 1) := by kernel_rfl
    obtain ⟨i0, hi, hz0, hz1, hz2⟩ := info_parts infoE
    have hbs := hB1.size
    have c0 : W1.cell? ⟨w.heap.size, 0, none⟩ = some (.string s) := h0.cell 0
    have hln := mdV_len s.toList pre
    have ey := mdV_yes s.toList pre x
    have en := mdV_no s.toList pre x
    rw [show (opN x.val == s.toList) = ((mkS (opN x.val)).toList == s.toList) by rw [mkS_toList]] at ey en
    have H0 := Lib.hid h0
    clear h0 bX infoE
    obtain ⟨z1, hz⟩ : ∃ z, ((mkS (opN x.val)).toList == s.toList) = z := ⟨_, rfl⟩
    rw [hz] at ey en
    generalize opV x.val = vx
    cases z1 with
    | false =>
      have EN := Lib.hid (en rfl)
      clear ey en
      gi_wp2
      exact ⟨(KeepsOthers.refl _).from _, trivial, ⟨⟨v, hv, by rw [EN.out]; exact hrw, trivial⟩, H0.out⟩, hB1⟩
    | true =>
      have EY := Lib.hid (ey rfl)
      clear ey en
      gi_wp2_with (gi_at_builtin; refine wpListIn_append_own _ rfl _ _ 33 rfl w.heap.size 5 i0 (.int .u8 0) 1 1 Tryd.underlying33 hi hz0 hz1 hz2 rfl (by decide) _ _ _ rfl (hrw.alloc _) ⟨W1.heap.size, 0, none⟩ 1 1 [.int .u8 (opM x.val : Int)] rfl rfl (cell_one_new _ _ _) (by intro u hu; simp at hu; subst hu; rfl) (by unfold maxLen; omega) (by omega) (by simp; omega) ?_; intro v' w1 hown' hgrow _; obtain ⟨g', cap', rfl⟩ := ownsRow_succ hown'; obtain ⟨hv1, hv2, hr2, hk2, hb2⟩ := hv.appended (by decide) hrw hbs (by omega) hown' hgrow; have hc1 := hv1.cell; have hf1 := hv1.frozen)
      have hX0 : Blk w1 w.heap.size 9 #[.string s] := by
        have q1 := H0.out.alloc (.cells #[.int .u8 (opM x.val : Int)] 5)
        exact (hgrow.block _ q1.lt (blk_not_row q1 (by decide) (hrw.alloc _))).trans q1
      exact ⟨hk2.from _, trivial, ⟨⟨_, hv2, by rw [EY.out, List.length_append, List.length_singleton]; exact hr2, trivial⟩, hX0.far (p := ⟨w.heap.size + 1, 0, none⟩) (by simp) _⟩, hB1.trans hb2⟩
  case done =>
    rintro D xs W1 hD rfl ⟨⟨⟨v, hv, hrw, -⟩, h0⟩, hB1⟩ hK
    have cv := hv.cell
    have fv := hv.frozen
    have hzs := HZS.out
    have hz12 : zs.length ≤ 12 := hzs ▸ mdL_12 _
    have hmv : mdV s.toList (knL 256) = zs.map u8E := by unfold mdV; rw [hzs]
    rw [hmv, List.length_map] at hrw
    by_cases hn : v = .slice none 0 0
    · subst hn
      have hz0 : zs = [] := by
        rcases hrw.2 with ⟨_, h⟩ | ⟨g, cap, cur, h, _⟩
        · exact List.length_eq_zero_iff.1 h
        · cases h
      subst hz0
      gi_wp2
      refine ⟨trivial, callsIn_wide.2 ?_⟩
      refine (sort_none _).mono ?_
      rintro e w' ⟨rfl, rfl⟩
      gi_wp2
      refine ⟨by simp, .inl ⟨_, _, rfl, run_takeDeferred hK, ?_⟩⟩
      exact ⟨_, results_tmp rfl _ _ _, ⟨_, rfl, by rw [show sortL ([] : List Int) = [] from List.perm_nil.1 (sortL_perm [])]; exact ownsRow_putObj hrw _ hK rfl, hB1.trans (belowK_b (w := w) (Nat.le_refl _) _ D _ _ (by omega) hK rfl rfl)⟩⟩
    · obtain ⟨g, cap, rfl, hbg, hgl, hnc, hcm, hl, hH⟩ := Lib.holds_of_ownsRow (enc := u8E) (zs := zs) hrw hn
      have hgc : ∃ cur, W1.heap[g]? = some (.cells cur 5 (0, 0)) := by
        rcases hrw.2 with ⟨h, _⟩ | ⟨g2, cap2, cur, h, _, h2, _⟩
        · cases h
        · cases h; exact ⟨cur, h2⟩
      obtain ⟨cur, hcur⟩ := hgc
      have hsort := sort_u8 g cap zs W1 hH hz12
      have hnr : g ≠ w.heap.size + 1 := fun e => by
        have h1 : W1.heap[w.heap.size + 1]? = _ := hv
        rw [← e, hcur] at h1
        simp at h1
      clear hH hn
      have HCUR := Lib.hid hcur
      have HV := Lib.hid hv
      have HR := Lib.hid hrw
      clear hcur hv hrw h0
      gi_wp2
      refine ⟨trivial, callsIn_wide.2 ?_⟩
      refine hsort.mono ?_
      rintro e w' ⟨rfl, q, rfl⟩
      have hg2 := grown_put (enc := u8E) W1 q g (sortL zs).toArray
      have hsl : (sortL zs).length = zs.length := (sortL_perm zs).length_eq
      have hr2 := Lib.ownsRow_putRow (enc := u8E) (q := q) (k := zs.length) (ys := sortL zs) HR.out hsl (Nat.le_refl _)
      rw [List.take_of_length_le (by omega)] at hr2
      have hB2 := Lib.below_putRow (enc := u8E) (q := q) (d := (sortL zs).toArray) hB1 hbg
      have hv2 := HV.out.kept hg2 (fun e => hnr (by cases e; rfl))
      have hK2 := (hg2.block D (Array.getElem?_eq_some_iff.1 hK).1 (fun e => by cases e; rw [HCUR.out] at hK; cases hK)).trans hK
      generalize putRow u8E _ _ _ _ = W2 at *
      have cv2 := hv2.cell
      clear cv fv
      gi_wp2
      refine ⟨by simp, .inl ⟨_, _, rfl, run_takeDeferred hK2, ?_⟩⟩
      exact ⟨_, results_tmp rfl _ _ _, ⟨_, rfl, ownsRow_putObj hr2 _ hK2 rfl, hB2.trans (belowK_b (w := w) (Nat.le_refl _) _ D _ _ (by omega) hK2 rfl rfl)⟩⟩
  case stop =>
    rintro D c pre W1 hD hpre h hK
    exact h.elim
set_option maxHeartbeats 8000000 in
theorem onames_any (w : World) :
    Calls Tryd.prog 19 #[] w fun e w' => ∃ v, e = .returned v ∧ w'.ownsRow w.heap.size 9 1 v allN.length (allN.map encStr) ∧ Below w.heap.size w w' := by
  unfold allN
  obtain ⟨zs, hzs⟩ : ∃ zs : List (List UInt8), nmL (knL 256) = zs := ⟨_, rfl⟩
  rw [hzs]
  obtain ⟨ms, hms⟩ : ∃ ms, zs.mergeSort (fun x y => decide (x ≤ y)) = ms := ⟨_, rfl⟩
  rw [hms]
  obtain ⟨cs, hcs⟩ : ∃ cs, Lib.compact ms = cs := ⟨_, rfl⟩
  rw [hcs]
  have HZS := Lib.hid hzs
  have HMS := Lib.hid hms
  have HCS := Lib.hid hcs
  clear hzs hms hcs
  refine (callsIn_wide (n := 6)).1 ?_
  refine callsIn_of_wp_marks Tryd.func19 rfl trivial ?_ rfl
  simp only [Tryd.ntmps19, List.size_toArray, List.length_cons, List.length_nil, Nat.reduceAdd, Nat.reduceSub, Array.replicate_succ, Array.replicate_zero, List.push_toArray, List.append_toArray, List.nil_append, List.cons_append]
  gi_wp2
  refine ⟨trivial, callsIn_wide.2 ?_⟩
  have hB4 : Below w.heap.size w (w.alloc (.cells #[.slice none 0 0] 37)) := (Below.refl _ w).alloc (Nat.le_refl _) _
  have b1 : Boxed (w.alloc (.cells #[.slice none 0 0] 37)) w.heap.size 37 (.slice none 0 0) := Blk.new_ (by simp)
  have s4 : (w.alloc (.cells #[.slice none 0 0] 37)).heap.size = w.heap.size + 1 := by simp
  generalize World.alloc _ _ = w4 at *
  refine (knownit_any w4).mono ?_
  rintro e w5 ⟨rfl, rfl⟩
  gi_wp2
  refine wpIn_rangeFunc_ownH rfl (by omega) (gf := 85) (lb := #[]) rfl trivial (enters_of Tryd.func85 (by kernel_rfl) rfl)
    (known_stops 5 (by omega) w4) (fun _ _ => trivial) (fun _ _ _ _ _ _ _ _ => trivial) (Below.refl _ _) (fun _ => rfl)
    (fun pre W1 => ((∃ v, Boxed W1 w.heap.size 37 v ∧ W1.ownsRow w.heap.size 9 1 v (nmV pre).length (nmV pre) ∧ True)) ∧ Below w.heap.size w W1)
    (fun c pre W1 => False)
    (OwnFrom.and (I := fun pre W1 => (∃ v, Boxed W1 w.heap.size 37 v ∧ W1.ownsRow w.heap.size 9 1 v (nmV pre).length (nmV pre) ∧ True)) (fun z X Y row hs hg hr => holdsRow_own w.heap.size w.heap.size 37 9 1 (fun pre => (nmV pre).length) (nmV) (fun _ _ => True) z X Y row hs hg (fun r e => (hr r e).2)) (ownFrom_below (Nat.le_refl _) (by omega)))
    (fun _ _ _ _ _ hs _ _ => hs)
    ⟨⟨.slice none 0 0, b1, World.ownsRow_nil _ _ _ _, trivial⟩, hB4⟩
    (fun x a' W => ∃ Bx, w.heap.size + 0 < Bx ∧ Blk W Bx 24 #[.string (mkS (opN x.val)), .int .u8 (opM x.val : Int), .int .i64 (opZ x.val), .int .i64 (opY x.val : Int)] ∧ a' = { tmps := #[.slice none 0 0, .pointer (some ⟨w.heap.size, 0, none⟩), undef, .pointer (some ⟨Bx, 0, none⟩), .func (.func 85) #[] #[], .int .u8 (x.val : Int), opV x.val, undef, undef, undef, undef, undef, undef, undef, undef, undef], defers := [] })
    (fun x a' _ X Y row hs hg hr => by obtain ⟨Bx, h1, h2, h3⟩ := hs; exact ⟨Bx, h1, mblk_own h2 hg (fun r e => (hr r e).2), h3⟩)
    ?assign ?body ?done ?stop
  case assign =>
    rintro l pre x W K ⟨⟨v, hv, hrw, -⟩, hB1⟩ hK
    have hs1 := Boxed.lt hv
    unfold opV
    gi_wp2
    exact hK _ _ ((KeepsOthers.alloc _ _).from _) trivial ⟨⟨v, hv.alloc _, hrw.alloc _, trivial⟩, hB1.alloc hB1.size _⟩ ⟨W.heap.size, by first | exact hs1 | omega, Blk.new W _ _, rfl⟩
  case body =>
    rintro l pre x a' W1 hl ⟨r, hr⟩ ⟨⟨v, hv, hrw, -⟩, hB1⟩ ⟨Bx, hBx, bX, rfl⟩ hlt
    have cv := hv.cell
    have d0 : W1.cell? ⟨Bx, 0, none⟩ = some (.string (mkS (opN x.val))) := bX.cell 0
    have d1 : W1.cell? ⟨Bx, 1, none⟩ = some (.int .u8 (opM x.val : Int)) := bX.cell 1
    have infoE : (Tryd.prog.info? 9).map (fun i => (i.zero, i.size, i.bytes)) = some (some (.string ⟨#[]⟩), 1, 16) := by kernel_rfl
    obtain ⟨i0, hi, hz0, hz1, hz2⟩ := info_parts infoE
    have hbs := hB1.size
    have hln : (nmV pre).length ≤ pre.length := Nat.le_of_eq (nmV_len pre)
    have EY := Lib.hid (nmV_snoc pre x)
    clear bX infoE
    generalize opV x.val = vx
    gi_wp2_with (gi_at_builtin; refine wpListIn_append_own _ rfl _ _ 37 rfl w.heap.size 9 i0 (.string ⟨#[]⟩) 1 16 Tryd.underlying37 hi hz0 hz1 hz2 rfl (by decide) _ _ _ rfl (hrw.alloc _) ⟨W1.heap.size, 0, none⟩ 1 1 [.string (mkS (opN x.val))] rfl rfl (cell_one_new _ _ _) (by intro u hu; simp at hu; subst hu; rfl) (by unfold maxLen; omega) (by omega) (by simp; omega) ?_; intro v' w1 hown' hgrow _; obtain ⟨g', cap', rfl⟩ := ownsRow_succ hown'; obtain ⟨hv1, hv2, hr2, hk2, hb2⟩ := hv.appended (by decide) hrw hbs (Nat.le_refl _) hown' hgrow; have hc1 := hv1.cell; have hf1 := hv1.frozen)
    exact ⟨hk2.from _, trivial, ⟨_, hv2, by rw [EY.out, List.length_append, List.length_singleton]; exact hr2, trivial⟩, hB1.trans hb2⟩
  case done =>
    rintro D xs W1 hD rfl ⟨⟨v, hv, hrw, -⟩, hB1⟩ hK
    have cv := hv.cell
    have fv := hv.frozen
    have hzs := HZS.out
    have hms := HMS.out
    have hcs := HCS.out
    have hz : zs ≠ [] := by rw [← hzs]; exact nmL_some
    have hz256 : zs.length ≤ 256 := by rw [← hzs]; unfold nmL; rw [List.length_map]; exact knL_len 256
    have hmv : nmV (knL 256) = zs.map encStr := by rw [← hzs]; unfold nmV nmL; rw [List.map_map]; rfl
    rw [hmv, List.length_map] at hrw
    have hn : v ≠ .slice none 0 0 := fun e => by
      rcases hrw.2 with ⟨_, h⟩ | ⟨g, cap, cur, h, _⟩
      · exact hz (List.length_eq_zero_iff.1 h)
      · rw [h] at e; cases e
    obtain ⟨g, cap, rfl, hbg, hgl, hnc, hcm, hl, hH⟩ := Lib.holds_of_ownsRow (enc := encStr) (zs := zs) hrw hn
    have hgc : ∃ cur, W1.heap[g]? = some (.cells cur 9 (0, 0)) := by
      rcases hrw.2 with ⟨h, _⟩ | ⟨g2, cap2, cur, h, _, h2, _⟩
      · cases h
      · cases h; exact ⟨cur, h2⟩
    obtain ⟨cur, hcur⟩ := hgc
    have hsort := sh_slices_Sort_string g 0 cap zs W1 hH hgl (by omega)
    have hnr : g ≠ w.heap.size := fun e => by
      have h1 : W1.heap[w.heap.size]? = _ := hv
      rw [← e, hcur] at h1
      simp at h1
    have HH := Lib.hid hH
    have HCUR := Lib.hid hcur
    have HV := Lib.hid hv
    have HR := Lib.hid hrw
    have hml : ms.length = zs.length := by rw [← hms]; exact List.length_mergeSort zs
    rw [hms] at hsort
    clear hH hn hcur hv hrw hms
    gi_wp2
    refine ⟨trivial, callsIn_wide.2 ?_⟩
    refine hsort.mono ?_
    rintro e w' ⟨rfl, q, os, rfl⟩
    obtain ⟨W2, hW2⟩ : ∃ W2, grow (putRow encStr (Sort.ahead W1 q) g 0 ms.toArray) os = W2 := ⟨_, rfl⟩
    have hg2 : W1.grownBy W2 (some g) := hW2 ▸ grownBy_sorted _
    have hH2 : Holds encStr W2 g 0 ms.toArray := hW2 ▸ holds_grow encStr _ os g 0 _ (by simpa [putRow, mapBlock, Sort.ahead] using hgl) (holds_putRow encStr _ g 0 _ _ (holds_ahead encStr W1 q g 0 _ HH.out) (by simp [hml]))
    have hr2 : W2.ownsRow w.heap.size 9 1 (.slice (some ⟨g, 0, none⟩) zs.length cap) zs.length (ms.map encStr) := hW2 ▸ ownsRow_sorted (n := q) (os := os) (ts := ms) hml hbg HCUR.out hnc hcm (by
      rcases HR.out.2 with ⟨h, _⟩ | ⟨g2, cap2, cur2, h, _, h2, _, _, h3, _⟩
      · cases h
      · cases h; rw [HCUR.out] at h2; cases h2; exact h3)
    rw [hW2]
    have hB2 : Below w.heap.size w W2 := hB1.grown hg2 hB1.size (fun j hj => by cases hj; exact hbg)
    have hv2 := HV.out.kept hg2 (fun e => hnr (by cases e; rfl))
    have hK2 := (hg2.block D (Array.getElem?_eq_some_iff.1 hK).1 (fun e => by cases e; rw [HCUR.out] at hK; cases hK)).trans hK
    have hcomp := sh_slices_Compact_string g 0 cap ms W2 hH2 (by omega) (by omega)
    rw [hml] at hcomp
    have hcl := Lib.compact_length_le ms
    have HK2 := Lib.hid hK2
    have HB2 := Lib.hid hB2
    have HR2 := Lib.hid hr2
    rw [hcs] at hcomp hcl
    have cv2 := hv2.cell
    have hgD : g ≠ D := fun e => by rw [← e, HCUR.out] at hK; cases hK
    clear cv fv hsort hH2 hr2 hK2 hB2 hcs hv2 hg2 hW2 hK
    gi_wp2
    refine ⟨trivial, callsIn_wide.2 ?_⟩
    refine hcomp.mono ?_
    rintro e w' ⟨rfl, q3, rfl⟩
    have hg3 := grown_put (enc := encStr) W2 q3 g (cs ++ List.replicate (zs.length - cs.length) []).toArray
    have hr3 := Lib.ownsRow_putRow (enc := encStr) (q := q3) (k := cs.length) (zs := ms) (ys := cs ++ List.replicate (zs.length - cs.length) []) HR2.out (by simp; omega) (by omega)
    rw [List.take_left] at hr3
    have hB3 := Lib.below_putRow (enc := encStr) (q := q3) (d := (cs ++ List.replicate (zs.length - cs.length) []).toArray) HB2.out hbg
    have hK3 := (hg3.block D (Array.getElem?_eq_some_iff.1 HK2.out).1 (fun e => hgD (by cases e; rfl))).trans HK2.out
    generalize putRow encStr _ _ _ _ = W3 at *
    clear hcomp
    gi_wp2
    refine ⟨by simp, .inl ⟨_, _, rfl, run_takeDeferred hK3, ?_⟩⟩
    exact ⟨_, results_tmp rfl _ _ _, ⟨_, rfl, ownsRow_putObj hr3 _ hK3 rfl, hB3.trans (belowK_b (w := w) (Nat.le_refl _) _ D _ _ (by omega) hK3 rfl rfl)⟩⟩
  case stop =>
    rintro D c pre W1 hD hpre h hK
    exact h.elim
end Go.Proofs.YtleofglnlfpoeaaDoor
