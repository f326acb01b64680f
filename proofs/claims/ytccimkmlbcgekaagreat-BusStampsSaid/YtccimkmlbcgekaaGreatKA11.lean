/-
  Texts of these proofs, one behind the other: G9, Mmu7, Mmu8.
-/
import Derived.Test.YtccimkmlbcgekaaGreatKA03
import Derived.Test.YtccimkmlbcgekaaGreatKA10
import Derived.RangeFuncBox
namespace Go.Proofs.YtccimkmlbcgekaaGreat
open Go.RowKit
set_option linter.unusedVariables false
theorem more_new {P : Program} {t e ty : TypeId} {size bytes : Nat} {z : Value} {w : World} {base n m c g : Nat} {v : Value} {xs : List Value} (ht : P.underlying t = some (.slice e))
    (hinfo : (P.info? e).map (fun i => (i.zero, i.size, i.bytes)) = some (some z, size, bytes)) (hzs : z.cells.size = size) (hsz : 0 < size)
    (hown : w.ownsRow base e size v n xs) (cells : Array Value) (hlen : cells.size = m * size) (h1 : ∀ u ∈ cells.toList, u.oneCell' = true) (hg : g = w.heap.size)
    (hm : n + m ≤ 1099511627776) (hby : (n + m) * bytes ≤ 140737488355328) (hbase : base ≤ w.heap.size) :
    ∃ v' w', (Builtin.append_ #[t, t] ty #[v, .slice (some ⟨g, 0, none⟩) m c]).run P (w.alloc (.cells cells e)) = .ok v' w' ∧ w'.ownsRow base e size v' (n + m) (xs ++ cells.toList) ∧ (w.alloc (.cells cells e)).grownBy w' v.ownBlock := by
  subst hg
  obtain ⟨i, hi, hzz⟩ := Option.map_eq_some_iff.1 hinfo
  simp only [Prod.mk.injEq] at hzz
  obtain ⟨hz, hs, hb⟩ := hzz
  obtain ⟨v', w', h1', h2, h3, _, _⟩ := run_append_own_at (P := P) (w.alloc (.cells cells e)) base t ty e i z size bytes ht hi hz hs hb hzs hsz v n xs (hown.alloc _) ⟨w.heap.size, 0, none⟩ m c cells.toList (by simpa using hlen)
    (fun j u hu => by
      rw [add_zero_block, cell_of_row _ _ j _ e (0, 0) (heap_alloc_new w _)]
      simpa using hu)
    h1 (by unfold maxLen; omega) hby (by simp; omega)
  exact ⟨v', w', h1', h2, h3⟩
end Go.Proofs.YtccimkmlbcgekaaGreat
namespace Go.Proofs.YtccimkmlbcgekaaGreat
open Go.RowKit Go.Shelf
set_option linter.unusedVariables false
set_option linter.unusedSimpArgs false
set_option maxRecDepth 100000
attribute [local go_sem] Oper.semAt_some
/-- The logical addresses of a physical one, page by page. -/
def seL (z : Nat → Int) (a : Int) (l : List (Fin 8)) : List Value := (l.filter fun x => z x.val == bankI a).map fun x => .int .u16 ((x.val : Int) * 8192 + offI a)
theorem bitB_one : ∀ x i : Fin 8, bitB ((2 : Int) ^ x.val) (i.val : Int) = decide (i = x) := by decide +kernel
/-- A page is in a bank just if no page changes when it is moved there. -/
theorem same_page (z : Nat → Int) (x : Fin 8) (k : Int) : ((List.range 8).all fun i => mvd z (2 ^ x.val) k i == z i) = (z x.val == k) := by
  apply Bool.eq_iff_iff.2
  rw [List.all_eq_true]
  constructor
  · intro h
    have := h x.val (by simp [x.isLt])
    unfold mvd at this
    rw [bitB_one x x, decide_eq_true rfl, if_pos rfl] at this
    simp only [beq_iff_eq] at this ⊢
    exact this.symm
  · intro h i hi
    have hi : i < 8 := by simpa using hi
    simp only [beq_iff_eq] at h ⊢
    unfold mvd
    have hb := bitB_one x ⟨i, hi⟩
    dsimp only at hb
    rw [hb]
    by_cases e : (⟨i, hi⟩ : Fin 8) = x
    · rw [decide_eq_true e, if_pos rfl, ← h, ← e]
    · rw [decide_eq_false e, if_neg (by decide)]
theorem seL_no (z : Nat → Int) (a : Int) (pre : List (Fin 8)) (x : Fin 8) (h : (z x.val == bankI a) = false) : seL z a (pre ++ [x]) = seL z a pre := by
  unfold seL
  rw [List.filter_append, List.map_append]
  simp [h]
theorem seL_yes (z : Nat → Int) (a : Int) (pre : List (Fin 8)) (x : Fin 8) (h : (z x.val == bankI a) = true) : seL z a (pre ++ [x]) = seL z a pre ++ (#[.int .u16 ((x.val : Int) * 8192 + offI a)] : Array Value).toList := by
  unfold seL
  rw [List.filter_append, List.map_append]
  simp [h]
section
variable {w w' : World} {g : Nat} {z : Nat → Int} {l : Int}
set_option maxHeartbeats 4000000 in
theorem mseen_of {p : Option Addr} (hbk : ∀ W : World, Below w.heap.size w W → Calls Tryz.prog 84 #[.pointer p] W fun e w' => e = .returned (.agg (p8 z)) ∧ Below W.heap.size W w') (hz : ∀ i, i < 8 → 0 ≤ z i ∧ z i ≤ 255) (a : Int) (a0 : 0 ≤ a) (a1 : a ≤ 4294967295) :
    Calls Tryz.prog 30 #[.pointer p, .int .u32 a] w fun e w' => ∃ v, e = .returned v ∧ w'.ownsRow w.heap.size 69 1 v (seL z a (wthL (fun i => bitB 255 i) 8)).length (seL z a (wthL (fun i => bitB 255 i) 8)) ∧ Below w.heap.size w w' := by
  have HBK := Lib.hid hbk
  have HZ := Lib.hid hz
  clear hbk hz
  refine (callsIn_wide (n := 6)).1 ?_
  refine callsIn_of_wp_marks Tryz.func30 rfl trivial ?_ rfl
  simp only [Tryz.ntmps30, List.size_toArray, List.length_cons, List.length_nil, Nat.reduceAdd, Nat.reduceSub, Array.replicate_succ, Array.replicate_zero, List.push_toArray, List.append_toArray, List.nil_append, List.cons_append]
  gi_wp2
  refine ⟨trivial, callsIn_wide.2 ?_⟩
  have hB4 : Below w.heap.size w ((w.alloc (.cells #[.int .u32 a] 56)).alloc (.cells #[.slice none 0 0] 74)) := ((Below.refl _ w).alloc (Nat.le_refl _) _).alloc (by simp) _
  have b0 : Blk ((w.alloc (.cells #[.int .u32 a] 56)).alloc (.cells #[.slice none 0 0] 74)) w.heap.size 56 #[.int .u32 a] := Blk.alloc (Blk.new_ rfl) _
  have b1 : Blk ((w.alloc (.cells #[.int .u32 a] 56)).alloc (.cells #[.slice none 0 0] 74)) (w.heap.size + 1) 74 #[.slice none 0 0] := Blk.new_ (by simp)
  have s4 : ((w.alloc (.cells #[.int .u32 a] 56)).alloc (.cells #[.slice none 0 0] 74)).heap.size = w.heap.size + 2 := by simp
  generalize World.alloc _ _ = w4 at *
  refine (HBK.out w4 hB4).mono ?_
  rw [show p8 z = #[.int .u8 (z 0), .int .u8 (z 1), .int .u8 (z 2), .int .u8 (z 3), .int .u8 (z 4), .int .u8 (z 5), .int .u8 (z 6), .int .u8 (z 7)] from rfl]
  rintro e w5 ⟨rfl, hB5⟩
  gi_wp2
  refine ⟨trivial, callsIn_wide.2 ?_⟩
  have B5 := hB4.trans (hB5.mono hB4.size)
  replace b0 := b0.below hB5 b0.lt
  replace b1 := b1.below hB5 b1.lt
  have s5 := hB5.size
  obtain ⟨B, hBn⟩ : ∃ B, w5.heap.size = B := ⟨_, rfl⟩
  have B6 : Below w.heap.size w (w5.alloc (.cells #[.int .u8 (z 0), .int .u8 (z 1), .int .u8 (z 2), .int .u8 (z 3), .int .u8 (z 4), .int .u8 (z 5), .int .u8 (z 6), .int .u8 (z 7)] 68)) := B5.alloc B5.size _
  replace b0 : Blk (w5.alloc (.cells #[.int .u8 (z 0), .int .u8 (z 1), .int .u8 (z 2), .int .u8 (z 3), .int .u8 (z 4), .int .u8 (z 5), .int .u8 (z 6), .int .u8 (z 7)] 68)) w.heap.size 56 #[.int .u32 a] := Blk.alloc b0 _
  replace b1 : Blk (w5.alloc (.cells #[.int .u8 (z 0), .int .u8 (z 1), .int .u8 (z 2), .int .u8 (z 3), .int .u8 (z 4), .int .u8 (z 5), .int .u8 (z 6), .int .u8 (z 7)] 68)) (w.heap.size + 1) 74 #[.slice none 0 0] := Blk.alloc b1 _
  have b2 : Blk (w5.alloc (.cells #[.int .u8 (z 0), .int .u8 (z 1), .int .u8 (z 2), .int .u8 (z 3), .int .u8 (z 4), .int .u8 (z 5), .int .u8 (z 6), .int .u8 (z 7)] 68)) B 68 (p8 z) := Blk.new_ hBn.symm
  have s6 : (w5.alloc (.cells #[.int .u8 (z 0), .int .u8 (z 1), .int .u8 (z 2), .int .u8 (z 3), .int .u8 (z 4), .int .u8 (z 5), .int .u8 (z 6), .int .u8 (z 7)] 68)).heap.size = B + 1 := by simp [hBn]
  have hBw : w.heap.size + 2 ≤ B := by omega
  try rw [hBn]
  generalize World.alloc _ _ = w6 at *
  refine (mwithin_any 255 w6).mono ?_
  rintro e w7 ⟨bn, rfl, hbn, hle, hB7⟩
  have B7 := B6.trans (hB7.mono B6.size)
  replace b0 := b0.below hB7 b0.lt
  replace b1 := b1.below hB7 b1.lt
  replace b2 := b2.below hB7 b2.lt
  have s7 := hB7.size
  clear hB4 s4 hB5 B5 s5 hBn B6 hB7
  unfold wthV
  gi_wp2
  refine wpIn_rangeFunc_ownF rfl (by omega) (gf := 128) (lb := #[.pointer (some ⟨bn, 0, none⟩)]) rfl trivial (enters_of Tryz.func128 (by kernel_rfl) rfl)
    (wth_stops 5 (by omega) bn 255 w7 hbn) (fun h k hb => k (h hb)) (fun W l o o' _ ho hc _ h => blk_put h ho hc) (Below.refl _ _) (fun _ => rfl)
    (fun pre W1 => ((∃ v, Boxed W1 (w.heap.size + 1) 74 v ∧ W1.ownsRow w.heap.size 69 1 v (seL z a pre).length (seL z a pre) ∧ True) ∧ Blk W1 w.heap.size 56 #[.int .u32 a] ∧ Blk W1 B 68 (p8 z)) ∧ Below w.heap.size w W1)
    (fun c pre W1 => False ∧ Below w.heap.size w W1)
    (OwnFrom.and (I := fun pre W1 => (∃ v, Boxed W1 (w.heap.size + 1) 74 v ∧ W1.ownsRow w.heap.size 69 1 v (seL z a pre).length (seL z a pre) ∧ True) ∧ Blk W1 w.heap.size 56 #[.int .u32 a] ∧ Blk W1 B 68 (p8 z)) (fun s X Y row hs hg hr => ⟨holdsRow_own w.heap.size (w.heap.size + 1) 74 69 1 (fun pre => (seL z a pre).length) (seL z a) (fun _ _ => True) s X Y row hs.1 hg (fun r e => (hr r e).2), mblk_own hs.2.1 hg (fun r e => (hr r e).2), mblk_own hs.2.2 hg (fun r e => (hr r e).2)⟩) (ownFrom_below (Nat.le_refl _) (by omega)))
    (fun c => OwnFrom.and (I := fun _ _ => False) (fun _ _ _ _ hs _ _ => hs) (ownFrom_below (Nat.le_refl _) (by omega)))
    ⟨⟨⟨.slice none 0 0, b1, World.ownsRow_nil _ _ _ _, trivial⟩, b0, b2⟩, B7⟩
    (fun x => { tmps := #[.pointer p, .int .u32 a, undef, .pointer (some ⟨w.heap.size, 0, none⟩), .slice none 0 0, .pointer (some ⟨w.heap.size + 1, 0, none⟩), .pointer (some ⟨B, 0, none⟩), .int .i64 (x.val : Int), .pointer p, .agg #[.int .u8 (z 0), .int .u8 (z 1), .int .u8 (z 2), .int .u8 (z 3), .int .u8 (z 4), .int .u8 (z 5), .int .u8 (z 6), .int .u8 (z 7)], .func (.func 128) #[] #[.pointer (some ⟨bn, 0, none⟩)], .int .i64 (x.val : Int), undef, undef, undef, undef, undef, undef, undef, undef, undef, undef, undef, undef, undef, undef, undef, undef, undef, undef], defers := [] }) ?assign ?body ?done ?stop
  case assign =>
    intro l x W1 K hK
    gi_wp2
    exact hK
  case body =>
    rintro l pre x W1 ⟨⟨⟨v, hv, hr, -⟩, h0, h2⟩, hB⟩ hpl
    have hx8 := x.isLt
    have hmx : Tryz.prog.follows .mixedOrders = true := by kernel_rfl
    gi_wp2
    obtain ⟨mk, hmk⟩ : ∃ mk : Int, (2 : Int) ^ x.val = mk := ⟨_, rfl⟩
    obtain ⟨Y, hY⟩ : ∃ Y, p8 (mvd z mk (bankI a)) = Y := ⟨_, rfl⟩
    obtain ⟨tf, htf⟩ : ∃ tf, (z x.val == bankI a) = tf := ⟨_, rfl⟩
    have i0 : (0 : Int) ≤ (x.val : Int) := by omega
    have hmw : IntKind.u8.wrap mk = mk := by
      rw [← hmk]
      exact (by decide : ∀ x : Fin 8, IntKind.u8.wrap ((2 : Int) ^ x.val) = (2 : Int) ^ x.val) x
    have hE : ∀ W : World, (Op.equalIn 10000 68 (.agg Y) (.agg #[.int .u8 (z 0), .int .u8 (z 1), .int .u8 (z 2), .int .u8 (z 3), .int .u8 (z 4), .int .u8 (z 5), .int .u8 (z 6), .int .u8 (z 7)])).run Tryz.prog W = .ok tf W := fun W => by
      rw [← hY, ← htf, ← hmk, ← same_page z x (bankI a)]
      exact run_eql_ints (n := 8) Tryz.underlying68 Tryz.underlying5 (by kernel_rfl) (by kernel_rfl) 9998 (mvd z (2 ^ x.val) (bankI a)) z W
    refine wpIn_region_any hmx ?_
    refine wpAnyIn_slots 8 [[], [], [1], [], [3], [0, 2, 4], [], [5, 6]] (fun l => { tmps := #[.pointer p, .int .u32 a, undef, .pointer (some ⟨w.heap.size, 0, none⟩), .slice none 0 0, .pointer (some ⟨w.heap.size + 1, 0, none⟩), .pointer (some ⟨B, 0, none⟩), .int .i64 (x.val : Int), .pointer p, .agg #[.int .u8 (z 0), .int .u8 (z 1), .int .u8 (z 2), .int .u8 (z 3), .int .u8 (z 4), .int .u8 (z 5), .int .u8 (z 6), .int .u8 (z 7)], .func (.func 128) #[] #[.pointer (some ⟨bn, 0, none⟩)], .int .i64 (x.val : Int), sl (l.getD 0 false) (.agg #[.int .u8 (z 0), .int .u8 (z 1), .int .u8 (z 2), .int .u8 (z 3), .int .u8 (z 4), .int .u8 (z 5), .int .u8 (z 6), .int .u8 (z 7)]), sl (l.getD 1 false) (.int .i64 (x.val : Int)), sl (l.getD 2 false) (.int .u8 mk), sl (l.getD 3 false) (.int .u32 a), sl (l.getD 4 false) (.int .u8 (bankI a)), sl (l.getD 5 false) (.agg Y), sl (l.getD 6 false) (.agg #[.int .u8 (z 0), .int .u8 (z 1), .int .u8 (z 2), .int .u8 (z 3), .int .u8 (z 4), .int .u8 (z 5), .int .u8 (z 6), .int .u8 (z 7)]), sl (l.getD 7 false) (.bool tf), undef, undef, undef, undef, undef, undef, undef, undef, undef, undef], defers := [] }) (fun _ wS => Blk wS w.heap.size 56 #[.int .u32 a] ∧ Blk wS B 68 (p8 z) ∧ Below W1.heap.size W1 wS) ?_ ?_ ?_ 8 _ _ rfl rfl (by intro j hj; exfalso; revert hj; match j with | 0 | 1 | 2 | 3 | 4 | 5 | 6 | 7 => simp | n + 8 => simp) ⟨h0, h2, (Below.refl _ W1).drew⟩
    · intro l hl
      obtain ⟨b0, b1, b2, b3, b4, b5, b6, b7, rfl⟩ := arr8 hl
      revert b0 b1 b2 b3 b4 b5 b6 b7
      decide +kernel
    · intro i lb wS hi hl hb hd hc hS
      obtain ⟨b0, b1, b2, b3, b4, b5, b6, b7, rfl⟩ := arr8 hl
      obtain ⟨h0s, h2s, hBs⟩ := id hS
      have : i = 0 ∨ i = 1 ∨ i = 2 ∨ i = 3 ∨ i = 4 ∨ i = 5 ∨ i = 6 ∨ i = 7 := by omega
      rcases this with rfl | rfl | rfl | rfl | rfl | rfl | rfl | rfl
      · obtain rfl : b0 = false := by simpa using hb
        show wpOpIn _ _ _ _ _ _ _ { tmps := #[.pointer p, .int .u32 a, undef, .pointer (some ⟨w.heap.size, 0, none⟩), .slice none 0 0, .pointer (some ⟨w.heap.size + 1, 0, none⟩), .pointer (some ⟨B, 0, none⟩), .int .i64 (x.val : Int), .pointer p, .agg #[.int .u8 (z 0), .int .u8 (z 1), .int .u8 (z 2), .int .u8 (z 3), .int .u8 (z 4), .int .u8 (z 5), .int .u8 (z 6), .int .u8 (z 7)], .func (.func 128) #[] #[.pointer (some ⟨bn, 0, none⟩)], .int .i64 (x.val : Int), undef, sl b1 (.int .i64 (x.val : Int)), sl b2 (.int .u8 mk), sl b3 (.int .u32 a), sl b4 (.int .u8 (bankI a)), sl b5 (.agg Y), sl b6 (.agg #[.int .u8 (z 0), .int .u8 (z 1), .int .u8 (z 2), .int .u8 (z 3), .int .u8 (z 4), .int .u8 (z 5), .int .u8 (z 6), .int .u8 (z 7)]), sl b7 (.bool tf), undef, undef, undef, undef, undef, undef, undef, undef, undef, undef], defers := [] } wS
        have c0 : wS.cell? ⟨B, 0, none⟩ = some (.int .u8 (z 0)) := h2s.cell 0
        have c1 : wS.cell? ⟨B, 1, none⟩ = some (.int .u8 (z 1)) := h2s.cell 1
        have c2 : wS.cell? ⟨B, 2, none⟩ = some (.int .u8 (z 2)) := h2s.cell 2
        have c3 : wS.cell? ⟨B, 3, none⟩ = some (.int .u8 (z 3)) := h2s.cell 3
        have c4 : wS.cell? ⟨B, 4, none⟩ = some (.int .u8 (z 4)) := h2s.cell 4
        have c5 : wS.cell? ⟨B, 5, none⟩ = some (.int .u8 (z 5)) := h2s.cell 5
        have c6 : wS.cell? ⟨B, 6, none⟩ = some (.int .u8 (z 6)) := h2s.cell 6
        have c7 : wS.cell? ⟨B, 7, none⟩ = some (.int .u8 (z 7)) := h2s.cell 7
        refine wpOpIn_step rfl (fun K hK => ?_)
        go_simp
        exact hK _ _ ⟨rfl, hS⟩
      · obtain rfl : b1 = false := by simpa using hb
        show wpOpIn _ _ _ _ _ _ _ { tmps := #[.pointer p, .int .u32 a, undef, .pointer (some ⟨w.heap.size, 0, none⟩), .slice none 0 0, .pointer (some ⟨w.heap.size + 1, 0, none⟩), .pointer (some ⟨B, 0, none⟩), .int .i64 (x.val : Int), .pointer p, .agg #[.int .u8 (z 0), .int .u8 (z 1), .int .u8 (z 2), .int .u8 (z 3), .int .u8 (z 4), .int .u8 (z 5), .int .u8 (z 6), .int .u8 (z 7)], .func (.func 128) #[] #[.pointer (some ⟨bn, 0, none⟩)], .int .i64 (x.val : Int), sl b0 (.agg #[.int .u8 (z 0), .int .u8 (z 1), .int .u8 (z 2), .int .u8 (z 3), .int .u8 (z 4), .int .u8 (z 5), .int .u8 (z 6), .int .u8 (z 7)]), undef, sl b2 (.int .u8 mk), sl b3 (.int .u32 a), sl b4 (.int .u8 (bankI a)), sl b5 (.agg Y), sl b6 (.agg #[.int .u8 (z 0), .int .u8 (z 1), .int .u8 (z 2), .int .u8 (z 3), .int .u8 (z 4), .int .u8 (z 5), .int .u8 (z 6), .int .u8 (z 7)]), sl b7 (.bool tf), undef, undef, undef, undef, undef, undef, undef, undef, undef, undef], defers := [] } wS
        refine wpOpIn_step rfl (fun K hK => ?_)
        go_simp
        exact hK _ _ ⟨rfl, hS⟩
      · obtain rfl : b2 = false := by simpa using hb
        obtain rfl : b1 = true := by simpa using hd 1 (by decide)
        show wpOpIn _ _ _ _ _ _ _ { tmps := #[.pointer p, .int .u32 a, undef, .pointer (some ⟨w.heap.size, 0, none⟩), .slice none 0 0, .pointer (some ⟨w.heap.size + 1, 0, none⟩), .pointer (some ⟨B, 0, none⟩), .int .i64 (x.val : Int), .pointer p, .agg #[.int .u8 (z 0), .int .u8 (z 1), .int .u8 (z 2), .int .u8 (z 3), .int .u8 (z 4), .int .u8 (z 5), .int .u8 (z 6), .int .u8 (z 7)], .func (.func 128) #[] #[.pointer (some ⟨bn, 0, none⟩)], .int .i64 (x.val : Int), sl b0 (.agg #[.int .u8 (z 0), .int .u8 (z 1), .int .u8 (z 2), .int .u8 (z 3), .int .u8 (z 4), .int .u8 (z 5), .int .u8 (z 6), .int .u8 (z 7)]), .int .i64 (x.val : Int), undef, sl b3 (.int .u32 a), sl b4 (.int .u8 (bankI a)), sl b5 (.agg Y), sl b6 (.agg #[.int .u8 (z 0), .int .u8 (z 1), .int .u8 (z 2), .int .u8 (z 3), .int .u8 (z 4), .int .u8 (z 5), .int .u8 (z 6), .int .u8 (z 7)]), sl b7 (.bool tf), undef, undef, undef, undef, undef, undef, undef, undef, undef, undef], defers := [] } wS
        refine wpOpIn_step rfl (fun K hK => ?_)
        go_simp
        try rw [hmw]
        exact hK _ _ ⟨rfl, hS⟩
      · obtain rfl : b3 = false := by simpa using hb
        show wpOpIn _ _ _ _ _ _ _ { tmps := #[.pointer p, .int .u32 a, undef, .pointer (some ⟨w.heap.size, 0, none⟩), .slice none 0 0, .pointer (some ⟨w.heap.size + 1, 0, none⟩), .pointer (some ⟨B, 0, none⟩), .int .i64 (x.val : Int), .pointer p, .agg #[.int .u8 (z 0), .int .u8 (z 1), .int .u8 (z 2), .int .u8 (z 3), .int .u8 (z 4), .int .u8 (z 5), .int .u8 (z 6), .int .u8 (z 7)], .func (.func 128) #[] #[.pointer (some ⟨bn, 0, none⟩)], .int .i64 (x.val : Int), sl b0 (.agg #[.int .u8 (z 0), .int .u8 (z 1), .int .u8 (z 2), .int .u8 (z 3), .int .u8 (z 4), .int .u8 (z 5), .int .u8 (z 6), .int .u8 (z 7)]), sl b1 (.int .i64 (x.val : Int)), sl b2 (.int .u8 mk), undef, sl b4 (.int .u8 (bankI a)), sl b5 (.agg Y), sl b6 (.agg #[.int .u8 (z 0), .int .u8 (z 1), .int .u8 (z 2), .int .u8 (z 3), .int .u8 (z 4), .int .u8 (z 5), .int .u8 (z 6), .int .u8 (z 7)]), sl b7 (.bool tf), undef, undef, undef, undef, undef, undef, undef, undef, undef, undef], defers := [] } wS
        have c0 : wS.cell? ⟨w.heap.size, 0, none⟩ = some (.int .u32 a) := h0s.cell 0
        refine wpOpIn_step rfl (fun K hK => ?_)
        go_simp
        exact hK _ _ ⟨rfl, hS⟩
      · obtain rfl : b4 = false := by simpa using hb
        obtain rfl : b3 = true := by simpa using hd 3 (by decide)
        show wpOpIn _ _ _ _ _ _ _ { tmps := #[.pointer p, .int .u32 a, undef, .pointer (some ⟨w.heap.size, 0, none⟩), .slice none 0 0, .pointer (some ⟨w.heap.size + 1, 0, none⟩), .pointer (some ⟨B, 0, none⟩), .int .i64 (x.val : Int), .pointer p, .agg #[.int .u8 (z 0), .int .u8 (z 1), .int .u8 (z 2), .int .u8 (z 3), .int .u8 (z 4), .int .u8 (z 5), .int .u8 (z 6), .int .u8 (z 7)], .func (.func 128) #[] #[.pointer (some ⟨bn, 0, none⟩)], .int .i64 (x.val : Int), sl b0 (.agg #[.int .u8 (z 0), .int .u8 (z 1), .int .u8 (z 2), .int .u8 (z 3), .int .u8 (z 4), .int .u8 (z 5), .int .u8 (z 6), .int .u8 (z 7)]), sl b1 (.int .i64 (x.val : Int)), sl b2 (.int .u8 mk), .int .u32 a, undef, sl b5 (.agg Y), sl b6 (.agg #[.int .u8 (z 0), .int .u8 (z 1), .int .u8 (z 2), .int .u8 (z 3), .int .u8 (z 4), .int .u8 (z 5), .int .u8 (z 6), .int .u8 (z 7)]), sl b7 (.bool tf), undef, undef, undef, undef, undef, undef, undef, undef, undef, undef], defers := [] } wS
        refine wpOpIn_step rfl (fun K hK => ?_)
        go_simp
        refine ⟨trivial, (CallsIn.inRound l (callsIn_wide.2 (bank_any a _ a0 a1))).mono ?_⟩
        rintro e w' ⟨rfl, rfl⟩
        exact hK _ _ ⟨rfl, hS⟩
      · obtain rfl : b5 = false := by simpa using hb
        obtain rfl : b0 = true := by simpa using hd 0 (by decide)
        obtain rfl : b2 = true := by simpa using hd 2 (by decide)
        obtain rfl : b4 = true := by simpa using hd 4 (by decide)
        show wpOpIn _ _ _ _ _ _ _ { tmps := #[.pointer p, .int .u32 a, undef, .pointer (some ⟨w.heap.size, 0, none⟩), .slice none 0 0, .pointer (some ⟨w.heap.size + 1, 0, none⟩), .pointer (some ⟨B, 0, none⟩), .int .i64 (x.val : Int), .pointer p, .agg #[.int .u8 (z 0), .int .u8 (z 1), .int .u8 (z 2), .int .u8 (z 3), .int .u8 (z 4), .int .u8 (z 5), .int .u8 (z 6), .int .u8 (z 7)], .func (.func 128) #[] #[.pointer (some ⟨bn, 0, none⟩)], .int .i64 (x.val : Int), .agg #[.int .u8 (z 0), .int .u8 (z 1), .int .u8 (z 2), .int .u8 (z 3), .int .u8 (z 4), .int .u8 (z 5), .int .u8 (z 6), .int .u8 (z 7)], sl b1 (.int .i64 (x.val : Int)), .int .u8 mk, sl b3 (.int .u32 a), .int .u8 (bankI a), undef, sl b6 (.agg #[.int .u8 (z 0), .int .u8 (z 1), .int .u8 (z 2), .int .u8 (z 3), .int .u8 (z 4), .int .u8 (z 5), .int .u8 (z 6), .int .u8 (z 7)]), sl b7 (.bool tf), undef, undef, undef, undef, undef, undef, undef, undef, undef, undef], defers := [] } wS
        refine wpOpIn_step rfl (fun K hK => ?_)
        go_simp
        have hm := moved_any z mk (bankI a) wS
        rw [hY] at hm
        refine ⟨trivial, (CallsIn.inRound l (callsIn_wide.2 hm)).mono ?_⟩
        rintro e w' ⟨rfl, hBm⟩
        exact hK _ _ ⟨rfl, h0s.below hBm h0s.lt, h2s.below hBm h2s.lt, hBs.trans (hBm.mono hBs.size)⟩
      · obtain rfl : b6 = false := by simpa using hb
        show wpOpIn _ _ _ _ _ _ _ { tmps := #[.pointer p, .int .u32 a, undef, .pointer (some ⟨w.heap.size, 0, none⟩), .slice none 0 0, .pointer (some ⟨w.heap.size + 1, 0, none⟩), .pointer (some ⟨B, 0, none⟩), .int .i64 (x.val : Int), .pointer p, .agg #[.int .u8 (z 0), .int .u8 (z 1), .int .u8 (z 2), .int .u8 (z 3), .int .u8 (z 4), .int .u8 (z 5), .int .u8 (z 6), .int .u8 (z 7)], .func (.func 128) #[] #[.pointer (some ⟨bn, 0, none⟩)], .int .i64 (x.val : Int), sl b0 (.agg #[.int .u8 (z 0), .int .u8 (z 1), .int .u8 (z 2), .int .u8 (z 3), .int .u8 (z 4), .int .u8 (z 5), .int .u8 (z 6), .int .u8 (z 7)]), sl b1 (.int .i64 (x.val : Int)), sl b2 (.int .u8 mk), sl b3 (.int .u32 a), sl b4 (.int .u8 (bankI a)), sl b5 (.agg Y), undef, sl b7 (.bool tf), undef, undef, undef, undef, undef, undef, undef, undef, undef, undef], defers := [] } wS
        have c0 : wS.cell? ⟨B, 0, none⟩ = some (.int .u8 (z 0)) := h2s.cell 0
        have c1 : wS.cell? ⟨B, 1, none⟩ = some (.int .u8 (z 1)) := h2s.cell 1
        have c2 : wS.cell? ⟨B, 2, none⟩ = some (.int .u8 (z 2)) := h2s.cell 2
        have c3 : wS.cell? ⟨B, 3, none⟩ = some (.int .u8 (z 3)) := h2s.cell 3
        have c4 : wS.cell? ⟨B, 4, none⟩ = some (.int .u8 (z 4)) := h2s.cell 4
        have c5 : wS.cell? ⟨B, 5, none⟩ = some (.int .u8 (z 5)) := h2s.cell 5
        have c6 : wS.cell? ⟨B, 6, none⟩ = some (.int .u8 (z 6)) := h2s.cell 6
        have c7 : wS.cell? ⟨B, 7, none⟩ = some (.int .u8 (z 7)) := h2s.cell 7
        refine wpOpIn_step rfl (fun K hK => ?_)
        go_simp
        exact hK _ _ ⟨rfl, hS⟩
      · obtain rfl : b7 = false := by simpa using hb
        obtain rfl : b5 = true := by simpa using hd 5 (by decide)
        obtain rfl : b6 = true := by simpa using hd 6 (by decide)
        show wpOpIn _ _ _ _ _ _ _ { tmps := #[.pointer p, .int .u32 a, undef, .pointer (some ⟨w.heap.size, 0, none⟩), .slice none 0 0, .pointer (some ⟨w.heap.size + 1, 0, none⟩), .pointer (some ⟨B, 0, none⟩), .int .i64 (x.val : Int), .pointer p, .agg #[.int .u8 (z 0), .int .u8 (z 1), .int .u8 (z 2), .int .u8 (z 3), .int .u8 (z 4), .int .u8 (z 5), .int .u8 (z 6), .int .u8 (z 7)], .func (.func 128) #[] #[.pointer (some ⟨bn, 0, none⟩)], .int .i64 (x.val : Int), sl b0 (.agg #[.int .u8 (z 0), .int .u8 (z 1), .int .u8 (z 2), .int .u8 (z 3), .int .u8 (z 4), .int .u8 (z 5), .int .u8 (z 6), .int .u8 (z 7)]), sl b1 (.int .i64 (x.val : Int)), sl b2 (.int .u8 mk), sl b3 (.int .u32 a), sl b4 (.int .u8 (bankI a)), .agg Y, .agg #[.int .u8 (z 0), .int .u8 (z 1), .int .u8 (z 2), .int .u8 (z 3), .int .u8 (z 4), .int .u8 (z 5), .int .u8 (z 6), .int .u8 (z 7)], undef, undef, undef, undef, undef, undef, undef, undef, undef, undef, undef], defers := [] } wS
        have he := hE wS
        refine wpOpIn_step rfl (fun K hK => ?_)
        go_simp
        exact hK _ _ ⟨rfl, hS⟩
    · intro wE hS
      show Exit.then _ _ .normal { tmps := #[.pointer p, .int .u32 a, undef, .pointer (some ⟨w.heap.size, 0, none⟩), .slice none 0 0, .pointer (some ⟨w.heap.size + 1, 0, none⟩), .pointer (some ⟨B, 0, none⟩), .int .i64 (x.val : Int), .pointer p, .agg #[.int .u8 (z 0), .int .u8 (z 1), .int .u8 (z 2), .int .u8 (z 3), .int .u8 (z 4), .int .u8 (z 5), .int .u8 (z 6), .int .u8 (z 7)], .func (.func 128) #[] #[.pointer (some ⟨bn, 0, none⟩)], .int .i64 (x.val : Int), .agg #[.int .u8 (z 0), .int .u8 (z 1), .int .u8 (z 2), .int .u8 (z 3), .int .u8 (z 4), .int .u8 (z 5), .int .u8 (z 6), .int .u8 (z 7)], .int .i64 (x.val : Int), .int .u8 mk, .int .u32 a, .int .u8 (bankI a), .agg Y, .agg #[.int .u8 (z 0), .int .u8 (z 1), .int .u8 (z 2), .int .u8 (z 3), .int .u8 (z 4), .int .u8 (z 5), .int .u8 (z 6), .int .u8 (z 7)], .bool tf, undef, undef, undef, undef, undef, undef, undef, undef, undef, undef], defers := [] } wE
      obtain ⟨h0e, h2e, hBe⟩ := hS
      have hve : Boxed wE (w.heap.size + 1) 74 v := Blk.below hv hBe (Boxed.lt hv)
      have hre := own_belowG hr hBe
      have hko : KeepsOthers W1 wE := keeps_below hBe
      have hBw2 := hB.trans (hBe.mono hB.size)
      cases tf with
      | false =>
        have HTF := Lib.hid htf
        gi_wp2
        exact ⟨hko, fun h => Blk.below h hBe h.lt, ⟨⟨v, hve, by rw [seL_no z a pre x HTF.out]; exact hre, trivial⟩, h0e, h2e⟩, hBw2⟩
      | true =>
        have HTF := Lib.hid htf
        obtain ⟨Wa, hWa⟩ : ∃ Wa, wE.drew = Wa := ⟨_, rfl⟩
        have kA : Below wE.heap.size wE Wa := hWa ▸ (Below.refl _ wE).drew
        have hvA := Boxed.lt hve
        have hva : Boxed Wa (w.heap.size + 1) 74 v := Blk.below hve kA hvA
        have hra := own_belowG hre kA
        have h0a := h0e.below kA h0e.lt
        have h2a := h2e.below kA h2e.lt
        obtain ⟨Wb, hWb⟩ : ∃ Wb, Wa.alloc (.cells #[.int .u16 ((x.val : Int) * 8192 + offI a)] 69) = Wb := ⟨_, rfl⟩
        have hin : (Tryz.prog.info? 69).map (fun i => (i.zero, i.size, i.bytes)) = some (some (.int .u16 0), 1, 2) := by kernel_rfl
        have hlen : (seL z a pre).length ≤ 8 := by
          have h1 : (seL z a pre).length ≤ pre.length := by unfold seL; rw [List.length_map]; exact List.length_filter_le _ _
          omega
        have hbw : w.heap.size ≤ Wa.heap.size := by have := hB.size; have := hBe.size; have := kA.size; omega
        obtain ⟨v2, Wc, hrun, hown2, hgr⟩ := more_new (ty := 74) (c := 1) Tryz.underlying74 hin rfl (by decide) hra #[.int .u16 ((x.val : Int) * 8192 + offI a)] (m := 1) rfl (by intro u hu; simp at hu; subst hu; rfl) rfl (by omega) (by omega) hbw
        obtain ⟨hvc, hvd, hrd, hkd, hbd⟩ := hva.appended (by decide) hra hbw (by omega) hown2 hgr
        have hv2 := ownsRow_succ hown2
        rw [hWb] at hrun hgr
        have hvb : Boxed Wb (w.heap.size + 1) 74 v := hWb ▸ hva.alloc _
        obtain ⟨Wd, hWd⟩ : ∃ Wd, Wc.setCell ⟨w.heap.size + 1, 0, none⟩ v2 = Wd := ⟨_, rfl⟩
        rw [hWd] at hvd hrd hkd hbd
        have h0d : Blk Wd w.heap.size 56 #[.int .u32 a] := by
          have h1 : Blk Wb w.heap.size 56 #[.int .u32 a] := hWb ▸ Blk.alloc h0a _
          have h2 : Blk Wc w.heap.size 56 #[.int .u32 a] := (hgr.block _ h1.lt (blk_not_row h1 (by decide) (hWb ▸ hra.alloc _))).trans h1
          exact hWd ▸ h2.far (p := ⟨w.heap.size + 1, 0, none⟩) (by simp) _
        have h2d : Blk Wd B 68 (p8 z) := by
          have h1 : Blk Wb B 68 (p8 z) := hWb ▸ Blk.alloc h2a _
          have h2 : Blk Wc B 68 (p8 z) := (hgr.block _ h1.lt (blk_not_row h1 (by decide) (hWb ▸ hra.alloc _))).trans h1
          exact hWd ▸ h2.far (p := ⟨w.heap.size + 1, 0, none⟩) (by simp; omega) _
        have hbnd : Blk Wa bn 5 #[.int .u8 255] → Blk Wd bn 5 #[.int .u8 255] := fun h0' => by
          have h1 : Blk Wb bn 5 #[.int .u8 255] := hWb ▸ Blk.alloc h0' _
          have h2 : Blk Wc bn 5 #[.int .u8 255] := (hgr.block _ h1.lt (blk_not_row h1 (by decide) (hWb ▸ hra.alloc _))).trans h1
          exact hWd ▸ h2.far (p := ⟨w.heap.size + 1, 0, none⟩) (by simp; omega) _
        have HVA := Lib.hid hva
        have HVB := Lib.hid hvb
        have HVC := Lib.hid hvc
        have H0A := Lib.hid h0a
        have HWB := Lib.hid hWb
        have HWD := Lib.hid hWd
        have HRUN := Lib.hid hrun
        have HV2 := Lib.hid hv2
        have o0 : 0 ≤ offI a ∧ offI a < 8192 := by unfold offI; omega
        have hw1 : IntKind.u16.wrap (x.val : Int) = (x.val : Int) := IntWalk.u16_in _ (by omega)
        have hw2 : IntKind.u16.wrap ((x.val : Int) * 8192) = (x.val : Int) * 8192 := IntWalk.u16_in _ (by omega)
        have hw3 : IntKind.u16.wrap ((x.val : Int) * 8192 + offI a) = (x.val : Int) * 8192 + offI a := IntWalk.u16_in _ (by omega)
        gi_wp2
        refine wpIn_region_any hmx ?_
        change wpAnyIn _ _ _ _ _ _ _ _ _ (World.drew _)
        rw [hWa]
        refine wpAnyIn_slots 10 [[], [], [1], [2], [], [4], [3, 5], [6], [0, 7, 5], [8, 0, 1, 2, 3, 4, 5, 6, 7]] (fun l => { tmps := #[.pointer p, .int .u32 a, undef, .pointer (some ⟨w.heap.size, 0, none⟩), .slice none 0 0, .pointer (some ⟨w.heap.size + 1, 0, none⟩), .pointer (some ⟨B, 0, none⟩), .int .i64 (x.val : Int), .pointer p, .agg #[.int .u8 (z 0), .int .u8 (z 1), .int .u8 (z 2), .int .u8 (z 3), .int .u8 (z 4), .int .u8 (z 5), .int .u8 (z 6), .int .u8 (z 7)], .func (.func 128) #[] #[.pointer (some ⟨bn, 0, none⟩)], .int .i64 (x.val : Int), .agg #[.int .u8 (z 0), .int .u8 (z 1), .int .u8 (z 2), .int .u8 (z 3), .int .u8 (z 4), .int .u8 (z 5), .int .u8 (z 6), .int .u8 (z 7)], .int .i64 (x.val : Int), .int .u8 mk, .int .u32 a, .int .u8 (bankI a), .agg Y, .agg #[.int .u8 (z 0), .int .u8 (z 1), .int .u8 (z 2), .int .u8 (z 3), .int .u8 (z 4), .int .u8 (z 5), .int .u8 (z 6), .int .u8 (z 7)], .bool true, sl (l.getD 0 false) (v), sl (l.getD 1 false) (.int .i64 (x.val : Int)), sl (l.getD 2 false) (.int .u16 (x.val : Int)), sl (l.getD 3 false) (.int .u16 ((x.val : Int) * 8192)), sl (l.getD 4 false) (.int .u32 a), sl (l.getD 5 false) (.int .u16 (offI a)), sl (l.getD 6 false) (.int .u16 ((x.val : Int) * 8192 + offI a)), sl (l.getD 7 false) (.slice (some ⟨Wa.heap.size, 0, none⟩) 1 1), sl (l.getD 8 false) (v2), undef], defers := [] }) (fun l wS => wS = bif l.getD 9 false then Wd else bif l.getD 8 false then Wc else bif l.getD 7 false then Wb else Wa) ?_ ?_ ?_ 10 _ _ rfl rfl (by intro j hj; exfalso; revert hj; match j with | 0 | 1 | 2 | 3 | 4 | 5 | 6 | 7 | 8 | 9 => simp | n + 10 => simp) rfl
        · intro l hl
          obtain ⟨b0, b1, b2, b3, b4, b5, b6, b7, b8, b9, rfl⟩ := arr10 hl
          revert b0 b1 b2 b3 b4 b5 b6 b7 b8 b9
          decide +kernel
        · intro i lb wS hi hl hb hd hc hS
          obtain ⟨b0, b1, b2, b3, b4, b5, b6, b7, b8, b9, rfl⟩ := arr10 hl
          have : i = 0 ∨ i = 1 ∨ i = 2 ∨ i = 3 ∨ i = 4 ∨ i = 5 ∨ i = 6 ∨ i = 7 ∨ i = 8 ∨ i = 9 := by omega
          rcases this with rfl | rfl | rfl | rfl | rfl | rfl | rfl | rfl | rfl | rfl
          · obtain rfl : b0 = false := by simpa using hb
            obtain rfl : b8 = false := by
              cases b8
              · rfl
              · exact absurd (hc 8 rfl 0 (by decide)) (by simp)
            obtain rfl : b9 = false := by
              cases b9
              · rfl
              · exact absurd (hc 9 rfl 8 (by decide)) (by simp)
            show wpOpIn _ _ _ _ _ _ _ { tmps := #[.pointer p, .int .u32 a, undef, .pointer (some ⟨w.heap.size, 0, none⟩), .slice none 0 0, .pointer (some ⟨w.heap.size + 1, 0, none⟩), .pointer (some ⟨B, 0, none⟩), .int .i64 (x.val : Int), .pointer p, .agg #[.int .u8 (z 0), .int .u8 (z 1), .int .u8 (z 2), .int .u8 (z 3), .int .u8 (z 4), .int .u8 (z 5), .int .u8 (z 6), .int .u8 (z 7)], .func (.func 128) #[] #[.pointer (some ⟨bn, 0, none⟩)], .int .i64 (x.val : Int), .agg #[.int .u8 (z 0), .int .u8 (z 1), .int .u8 (z 2), .int .u8 (z 3), .int .u8 (z 4), .int .u8 (z 5), .int .u8 (z 6), .int .u8 (z 7)], .int .i64 (x.val : Int), .int .u8 mk, .int .u32 a, .int .u8 (bankI a), .agg Y, .agg #[.int .u8 (z 0), .int .u8 (z 1), .int .u8 (z 2), .int .u8 (z 3), .int .u8 (z 4), .int .u8 (z 5), .int .u8 (z 6), .int .u8 (z 7)], .bool true, undef, sl b1 (.int .i64 (x.val : Int)), sl b2 (.int .u16 (x.val : Int)), sl b3 (.int .u16 ((x.val : Int) * 8192)), sl b4 (.int .u32 a), sl b5 (.int .u16 (offI a)), sl b6 (.int .u16 ((x.val : Int) * 8192 + offI a)), sl b7 (.slice (some ⟨Wa.heap.size, 0, none⟩) 1 1), undef, undef], defers := [] } wS
            cases b7
            · obtain rfl : wS = Wa := hS
              have cv := HVA.out.cell
              refine wpOpIn_step rfl (fun K hK => ?_)
              go_simp
              exact hK _ _ ⟨rfl, rfl⟩
            · obtain rfl : wS = Wb := hS
              have cv := HVB.out.cell
              refine wpOpIn_step rfl (fun K hK => ?_)
              go_simp
              exact hK _ _ ⟨rfl, rfl⟩
          · obtain rfl : b1 = false := by simpa using hb
            obtain rfl : b2 = false := by
              cases b2
              · rfl
              · exact absurd (hc 2 rfl 1 (by decide)) (by simp)
            obtain rfl : b3 = false := by
              cases b3
              · rfl
              · exact absurd (hc 3 rfl 2 (by decide)) (by simp)
            obtain rfl : b6 = false := by
              cases b6
              · rfl
              · exact absurd (hc 6 rfl 3 (by decide)) (by simp)
            obtain rfl : b7 = false := by
              cases b7
              · rfl
              · exact absurd (hc 7 rfl 6 (by decide)) (by simp)
            obtain rfl : b8 = false := by
              cases b8
              · rfl
              · exact absurd (hc 8 rfl 7 (by decide)) (by simp)
            obtain rfl : b9 = false := by
              cases b9
              · rfl
              · exact absurd (hc 9 rfl 8 (by decide)) (by simp)
            show wpOpIn _ _ _ _ _ _ _ { tmps := #[.pointer p, .int .u32 a, undef, .pointer (some ⟨w.heap.size, 0, none⟩), .slice none 0 0, .pointer (some ⟨w.heap.size + 1, 0, none⟩), .pointer (some ⟨B, 0, none⟩), .int .i64 (x.val : Int), .pointer p, .agg #[.int .u8 (z 0), .int .u8 (z 1), .int .u8 (z 2), .int .u8 (z 3), .int .u8 (z 4), .int .u8 (z 5), .int .u8 (z 6), .int .u8 (z 7)], .func (.func 128) #[] #[.pointer (some ⟨bn, 0, none⟩)], .int .i64 (x.val : Int), .agg #[.int .u8 (z 0), .int .u8 (z 1), .int .u8 (z 2), .int .u8 (z 3), .int .u8 (z 4), .int .u8 (z 5), .int .u8 (z 6), .int .u8 (z 7)], .int .i64 (x.val : Int), .int .u8 mk, .int .u32 a, .int .u8 (bankI a), .agg Y, .agg #[.int .u8 (z 0), .int .u8 (z 1), .int .u8 (z 2), .int .u8 (z 3), .int .u8 (z 4), .int .u8 (z 5), .int .u8 (z 6), .int .u8 (z 7)], .bool true, sl b0 (v), undef, undef, undef, sl b4 (.int .u32 a), sl b5 (.int .u16 (offI a)), undef, undef, undef, undef], defers := [] } wS
            refine wpOpIn_step rfl (fun K hK => ?_)
            go_simp
            try rw [hw1]
            try rw [hw2]
            try rw [hw3]
            exact hK _ _ ⟨rfl, (by first | rfl | exact (show wS = Wa from hS))⟩
          · obtain rfl : b2 = false := by simpa using hb
            obtain rfl : b1 = true := by simpa using hd 1 (by decide)
            obtain rfl : b3 = false := by
              cases b3
              · rfl
              · exact absurd (hc 3 rfl 2 (by decide)) (by simp)
            obtain rfl : b6 = false := by
              cases b6
              · rfl
              · exact absurd (hc 6 rfl 3 (by decide)) (by simp)
            obtain rfl : b7 = false := by
              cases b7
              · rfl
              · exact absurd (hc 7 rfl 6 (by decide)) (by simp)
            obtain rfl : b8 = false := by
              cases b8
              · rfl
              · exact absurd (hc 8 rfl 7 (by decide)) (by simp)
            obtain rfl : b9 = false := by
              cases b9
              · rfl
              · exact absurd (hc 9 rfl 8 (by decide)) (by simp)
            show wpOpIn _ _ _ _ _ _ _ { tmps := #[.pointer p, .int .u32 a, undef, .pointer (some ⟨w.heap.size, 0, none⟩), .slice none 0 0, .pointer (some ⟨w.heap.size + 1, 0, none⟩), .pointer (some ⟨B, 0, none⟩), .int .i64 (x.val : Int), .pointer p, .agg #[.int .u8 (z 0), .int .u8 (z 1), .int .u8 (z 2), .int .u8 (z 3), .int .u8 (z 4), .int .u8 (z 5), .int .u8 (z 6), .int .u8 (z 7)], .func (.func 128) #[] #[.pointer (some ⟨bn, 0, none⟩)], .int .i64 (x.val : Int), .agg #[.int .u8 (z 0), .int .u8 (z 1), .int .u8 (z 2), .int .u8 (z 3), .int .u8 (z 4), .int .u8 (z 5), .int .u8 (z 6), .int .u8 (z 7)], .int .i64 (x.val : Int), .int .u8 mk, .int .u32 a, .int .u8 (bankI a), .agg Y, .agg #[.int .u8 (z 0), .int .u8 (z 1), .int .u8 (z 2), .int .u8 (z 3), .int .u8 (z 4), .int .u8 (z 5), .int .u8 (z 6), .int .u8 (z 7)], .bool true, sl b0 (v), .int .i64 (x.val : Int), undef, undef, sl b4 (.int .u32 a), sl b5 (.int .u16 (offI a)), undef, undef, undef, undef], defers := [] } wS
            refine wpOpIn_step rfl (fun K hK => ?_)
            go_simp
            try rw [hw1]
            try rw [hw2]
            try rw [hw3]
            exact hK _ _ ⟨rfl, (by first | rfl | exact (show wS = Wa from hS))⟩
          · obtain rfl : b3 = false := by simpa using hb
            obtain rfl : b2 = true := by simpa using hd 2 (by decide)
            obtain rfl : b6 = false := by
              cases b6
              · rfl
              · exact absurd (hc 6 rfl 3 (by decide)) (by simp)
            obtain rfl : b7 = false := by
              cases b7
              · rfl
              · exact absurd (hc 7 rfl 6 (by decide)) (by simp)
            obtain rfl : b8 = false := by
              cases b8
              · rfl
              · exact absurd (hc 8 rfl 7 (by decide)) (by simp)
            obtain rfl : b9 = false := by
              cases b9
              · rfl
              · exact absurd (hc 9 rfl 8 (by decide)) (by simp)
            show wpOpIn _ _ _ _ _ _ _ { tmps := #[.pointer p, .int .u32 a, undef, .pointer (some ⟨w.heap.size, 0, none⟩), .slice none 0 0, .pointer (some ⟨w.heap.size + 1, 0, none⟩), .pointer (some ⟨B, 0, none⟩), .int .i64 (x.val : Int), .pointer p, .agg #[.int .u8 (z 0), .int .u8 (z 1), .int .u8 (z 2), .int .u8 (z 3), .int .u8 (z 4), .int .u8 (z 5), .int .u8 (z 6), .int .u8 (z 7)], .func (.func 128) #[] #[.pointer (some ⟨bn, 0, none⟩)], .int .i64 (x.val : Int), .agg #[.int .u8 (z 0), .int .u8 (z 1), .int .u8 (z 2), .int .u8 (z 3), .int .u8 (z 4), .int .u8 (z 5), .int .u8 (z 6), .int .u8 (z 7)], .int .i64 (x.val : Int), .int .u8 mk, .int .u32 a, .int .u8 (bankI a), .agg Y, .agg #[.int .u8 (z 0), .int .u8 (z 1), .int .u8 (z 2), .int .u8 (z 3), .int .u8 (z 4), .int .u8 (z 5), .int .u8 (z 6), .int .u8 (z 7)], .bool true, sl b0 (v), sl b1 (.int .i64 (x.val : Int)), .int .u16 (x.val : Int), undef, sl b4 (.int .u32 a), sl b5 (.int .u16 (offI a)), undef, undef, undef, undef], defers := [] } wS
            refine wpOpIn_step rfl (fun K hK => ?_)
            go_simp
            try rw [hw1]
            try rw [hw2]
            try rw [hw3]
            exact hK _ _ ⟨rfl, (by first | rfl | exact (show wS = Wa from hS))⟩
          · obtain rfl : b4 = false := by simpa using hb
            obtain rfl : b5 = false := by
              cases b5
              · rfl
              · exact absurd (hc 5 rfl 4 (by decide)) (by simp)
            obtain rfl : b6 = false := by
              cases b6
              · rfl
              · exact absurd (hc 6 rfl 5 (by decide)) (by simp)
            obtain rfl : b7 = false := by
              cases b7
              · rfl
              · exact absurd (hc 7 rfl 6 (by decide)) (by simp)
            obtain rfl : b8 = false := by
              cases b8
              · rfl
              · exact absurd (hc 8 rfl 7 (by decide)) (by simp)
            obtain rfl : b9 = false := by
              cases b9
              · rfl
              · exact absurd (hc 9 rfl 8 (by decide)) (by simp)
            show wpOpIn _ _ _ _ _ _ _ { tmps := #[.pointer p, .int .u32 a, undef, .pointer (some ⟨w.heap.size, 0, none⟩), .slice none 0 0, .pointer (some ⟨w.heap.size + 1, 0, none⟩), .pointer (some ⟨B, 0, none⟩), .int .i64 (x.val : Int), .pointer p, .agg #[.int .u8 (z 0), .int .u8 (z 1), .int .u8 (z 2), .int .u8 (z 3), .int .u8 (z 4), .int .u8 (z 5), .int .u8 (z 6), .int .u8 (z 7)], .func (.func 128) #[] #[.pointer (some ⟨bn, 0, none⟩)], .int .i64 (x.val : Int), .agg #[.int .u8 (z 0), .int .u8 (z 1), .int .u8 (z 2), .int .u8 (z 3), .int .u8 (z 4), .int .u8 (z 5), .int .u8 (z 6), .int .u8 (z 7)], .int .i64 (x.val : Int), .int .u8 mk, .int .u32 a, .int .u8 (bankI a), .agg Y, .agg #[.int .u8 (z 0), .int .u8 (z 1), .int .u8 (z 2), .int .u8 (z 3), .int .u8 (z 4), .int .u8 (z 5), .int .u8 (z 6), .int .u8 (z 7)], .bool true, sl b0 (v), sl b1 (.int .i64 (x.val : Int)), sl b2 (.int .u16 (x.val : Int)), sl b3 (.int .u16 ((x.val : Int) * 8192)), undef, undef, undef, undef, undef, undef], defers := [] } wS
            obtain rfl : wS = Wa := hS
            have ca : wS.cell? ⟨w.heap.size, 0, none⟩ = some (.int .u32 a) := H0A.out.cell 0
            refine wpOpIn_step rfl (fun K hK => ?_)
            go_simp
            exact hK _ _ ⟨rfl, rfl⟩
          · obtain rfl : b5 = false := by simpa using hb
            obtain rfl : b4 = true := by simpa using hd 4 (by decide)
            obtain rfl : b6 = false := by
              cases b6
              · rfl
              · exact absurd (hc 6 rfl 5 (by decide)) (by simp)
            obtain rfl : b7 = false := by
              cases b7
              · rfl
              · exact absurd (hc 7 rfl 6 (by decide)) (by simp)
            obtain rfl : b8 = false := by
              cases b8
              · rfl
              · exact absurd (hc 8 rfl 7 (by decide)) (by simp)
            obtain rfl : b9 = false := by
              cases b9
              · rfl
              · exact absurd (hc 9 rfl 8 (by decide)) (by simp)
            show wpOpIn _ _ _ _ _ _ _ { tmps := #[.pointer p, .int .u32 a, undef, .pointer (some ⟨w.heap.size, 0, none⟩), .slice none 0 0, .pointer (some ⟨w.heap.size + 1, 0, none⟩), .pointer (some ⟨B, 0, none⟩), .int .i64 (x.val : Int), .pointer p, .agg #[.int .u8 (z 0), .int .u8 (z 1), .int .u8 (z 2), .int .u8 (z 3), .int .u8 (z 4), .int .u8 (z 5), .int .u8 (z 6), .int .u8 (z 7)], .func (.func 128) #[] #[.pointer (some ⟨bn, 0, none⟩)], .int .i64 (x.val : Int), .agg #[.int .u8 (z 0), .int .u8 (z 1), .int .u8 (z 2), .int .u8 (z 3), .int .u8 (z 4), .int .u8 (z 5), .int .u8 (z 6), .int .u8 (z 7)], .int .i64 (x.val : Int), .int .u8 mk, .int .u32 a, .int .u8 (bankI a), .agg Y, .agg #[.int .u8 (z 0), .int .u8 (z 1), .int .u8 (z 2), .int .u8 (z 3), .int .u8 (z 4), .int .u8 (z 5), .int .u8 (z 6), .int .u8 (z 7)], .bool true, sl b0 (v), sl b1 (.int .i64 (x.val : Int)), sl b2 (.int .u16 (x.val : Int)), sl b3 (.int .u16 ((x.val : Int) * 8192)), .int .u32 a, undef, undef, undef, undef, undef], defers := [] } wS
            refine wpOpIn_step rfl (fun K hK => ?_)
            go_simp
            refine ⟨trivial, (CallsIn.inRound l (callsIn_wide.2 (off_any a _ a0 a1))).mono ?_⟩
            rintro e w' ⟨rfl, rfl⟩
            exact hK _ _ ⟨rfl, (by first | rfl | exact (show wS = Wa from hS))⟩
          · obtain rfl : b6 = false := by simpa using hb
            obtain rfl : b3 = true := by simpa using hd 3 (by decide)
            obtain rfl : b5 = true := by simpa using hd 5 (by decide)
            obtain rfl : b7 = false := by
              cases b7
              · rfl
              · exact absurd (hc 7 rfl 6 (by decide)) (by simp)
            obtain rfl : b8 = false := by
              cases b8
              · rfl
              · exact absurd (hc 8 rfl 7 (by decide)) (by simp)
            obtain rfl : b9 = false := by
              cases b9
              · rfl
              · exact absurd (hc 9 rfl 8 (by decide)) (by simp)
            show wpOpIn _ _ _ _ _ _ _ { tmps := #[.pointer p, .int .u32 a, undef, .pointer (some ⟨w.heap.size, 0, none⟩), .slice none 0 0, .pointer (some ⟨w.heap.size + 1, 0, none⟩), .pointer (some ⟨B, 0, none⟩), .int .i64 (x.val : Int), .pointer p, .agg #[.int .u8 (z 0), .int .u8 (z 1), .int .u8 (z 2), .int .u8 (z 3), .int .u8 (z 4), .int .u8 (z 5), .int .u8 (z 6), .int .u8 (z 7)], .func (.func 128) #[] #[.pointer (some ⟨bn, 0, none⟩)], .int .i64 (x.val : Int), .agg #[.int .u8 (z 0), .int .u8 (z 1), .int .u8 (z 2), .int .u8 (z 3), .int .u8 (z 4), .int .u8 (z 5), .int .u8 (z 6), .int .u8 (z 7)], .int .i64 (x.val : Int), .int .u8 mk, .int .u32 a, .int .u8 (bankI a), .agg Y, .agg #[.int .u8 (z 0), .int .u8 (z 1), .int .u8 (z 2), .int .u8 (z 3), .int .u8 (z 4), .int .u8 (z 5), .int .u8 (z 6), .int .u8 (z 7)], .bool true, sl b0 (v), sl b1 (.int .i64 (x.val : Int)), sl b2 (.int .u16 (x.val : Int)), .int .u16 ((x.val : Int) * 8192), sl b4 (.int .u32 a), .int .u16 (offI a), undef, undef, undef, undef], defers := [] } wS
            refine wpOpIn_step rfl (fun K hK => ?_)
            go_simp
            try rw [hw1]
            try rw [hw2]
            try rw [hw3]
            exact hK _ _ ⟨rfl, (by first | rfl | exact (show wS = Wa from hS))⟩
          · obtain rfl : b7 = false := by simpa using hb
            obtain rfl : b6 = true := by simpa using hd 6 (by decide)
            obtain rfl : b8 = false := by
              cases b8
              · rfl
              · exact absurd (hc 8 rfl 7 (by decide)) (by simp)
            obtain rfl : b9 = false := by
              cases b9
              · rfl
              · exact absurd (hc 9 rfl 8 (by decide)) (by simp)
            show wpOpIn _ _ _ _ _ _ _ { tmps := #[.pointer p, .int .u32 a, undef, .pointer (some ⟨w.heap.size, 0, none⟩), .slice none 0 0, .pointer (some ⟨w.heap.size + 1, 0, none⟩), .pointer (some ⟨B, 0, none⟩), .int .i64 (x.val : Int), .pointer p, .agg #[.int .u8 (z 0), .int .u8 (z 1), .int .u8 (z 2), .int .u8 (z 3), .int .u8 (z 4), .int .u8 (z 5), .int .u8 (z 6), .int .u8 (z 7)], .func (.func 128) #[] #[.pointer (some ⟨bn, 0, none⟩)], .int .i64 (x.val : Int), .agg #[.int .u8 (z 0), .int .u8 (z 1), .int .u8 (z 2), .int .u8 (z 3), .int .u8 (z 4), .int .u8 (z 5), .int .u8 (z 6), .int .u8 (z 7)], .int .i64 (x.val : Int), .int .u8 mk, .int .u32 a, .int .u8 (bankI a), .agg Y, .agg #[.int .u8 (z 0), .int .u8 (z 1), .int .u8 (z 2), .int .u8 (z 3), .int .u8 (z 4), .int .u8 (z 5), .int .u8 (z 6), .int .u8 (z 7)], .bool true, sl b0 (v), sl b1 (.int .i64 (x.val : Int)), sl b2 (.int .u16 (x.val : Int)), sl b3 (.int .u16 ((x.val : Int) * 8192)), sl b4 (.int .u32 a), sl b5 (.int .u16 (offI a)), .int .u16 ((x.val : Int) * 8192 + offI a), undef, undef, undef], defers := [] } wS
            obtain rfl : wS = Wa := hS
            refine wpOpIn_step rfl (fun K hK => ?_)
            go_simp
            try rw [HWB.out]
            exact hK _ _ ⟨rfl, rfl⟩
          · obtain rfl : b8 = false := by simpa using hb
            obtain rfl : b0 = true := by simpa using hd 0 (by decide)
            obtain rfl : b7 = true := by simpa using hd 7 (by decide)
            obtain rfl : b5 = true := by simpa using hd 5 (by decide)
            obtain rfl : b9 = false := by
              cases b9
              · rfl
              · exact absurd (hc 9 rfl 8 (by decide)) (by simp)
            show wpOpIn _ _ _ _ _ _ _ { tmps := #[.pointer p, .int .u32 a, undef, .pointer (some ⟨w.heap.size, 0, none⟩), .slice none 0 0, .pointer (some ⟨w.heap.size + 1, 0, none⟩), .pointer (some ⟨B, 0, none⟩), .int .i64 (x.val : Int), .pointer p, .agg #[.int .u8 (z 0), .int .u8 (z 1), .int .u8 (z 2), .int .u8 (z 3), .int .u8 (z 4), .int .u8 (z 5), .int .u8 (z 6), .int .u8 (z 7)], .func (.func 128) #[] #[.pointer (some ⟨bn, 0, none⟩)], .int .i64 (x.val : Int), .agg #[.int .u8 (z 0), .int .u8 (z 1), .int .u8 (z 2), .int .u8 (z 3), .int .u8 (z 4), .int .u8 (z 5), .int .u8 (z 6), .int .u8 (z 7)], .int .i64 (x.val : Int), .int .u8 mk, .int .u32 a, .int .u8 (bankI a), .agg Y, .agg #[.int .u8 (z 0), .int .u8 (z 1), .int .u8 (z 2), .int .u8 (z 3), .int .u8 (z 4), .int .u8 (z 5), .int .u8 (z 6), .int .u8 (z 7)], .bool true, v, sl b1 (.int .i64 (x.val : Int)), sl b2 (.int .u16 (x.val : Int)), sl b3 (.int .u16 ((x.val : Int) * 8192)), sl b4 (.int .u32 a), .int .u16 (offI a), sl b6 (.int .u16 ((x.val : Int) * 8192 + offI a)), .slice (some ⟨Wa.heap.size, 0, none⟩) 1 1, undef, undef], defers := [] } wS
            obtain rfl : wS = Wb := hS
            refine wpOpIn_step rfl (fun K hK => ?_)
            rw [if_pos (by kernel_rfl)]
            refine wpIn_append_any (.tmp 20) (.tmp 27) 74 rfl rfl rfl HRUN.out ?_
            exact hK _ _ ⟨rfl, rfl⟩
          · obtain rfl : b9 = false := by simpa using hb
            obtain rfl : b8 = true := by simpa using hd 8 (by decide)
            obtain rfl : b0 = true := by simpa using hd 0 (by decide)
            obtain rfl : b1 = true := by simpa using hd 1 (by decide)
            obtain rfl : b2 = true := by simpa using hd 2 (by decide)
            obtain rfl : b3 = true := by simpa using hd 3 (by decide)
            obtain rfl : b4 = true := by simpa using hd 4 (by decide)
            obtain rfl : b5 = true := by simpa using hd 5 (by decide)
            obtain rfl : b6 = true := by simpa using hd 6 (by decide)
            obtain rfl : b7 = true := by simpa using hd 7 (by decide)
            show wpOpIn _ _ _ _ _ _ _ { tmps := #[.pointer p, .int .u32 a, undef, .pointer (some ⟨w.heap.size, 0, none⟩), .slice none 0 0, .pointer (some ⟨w.heap.size + 1, 0, none⟩), .pointer (some ⟨B, 0, none⟩), .int .i64 (x.val : Int), .pointer p, .agg #[.int .u8 (z 0), .int .u8 (z 1), .int .u8 (z 2), .int .u8 (z 3), .int .u8 (z 4), .int .u8 (z 5), .int .u8 (z 6), .int .u8 (z 7)], .func (.func 128) #[] #[.pointer (some ⟨bn, 0, none⟩)], .int .i64 (x.val : Int), .agg #[.int .u8 (z 0), .int .u8 (z 1), .int .u8 (z 2), .int .u8 (z 3), .int .u8 (z 4), .int .u8 (z 5), .int .u8 (z 6), .int .u8 (z 7)], .int .i64 (x.val : Int), .int .u8 mk, .int .u32 a, .int .u8 (bankI a), .agg Y, .agg #[.int .u8 (z 0), .int .u8 (z 1), .int .u8 (z 2), .int .u8 (z 3), .int .u8 (z 4), .int .u8 (z 5), .int .u8 (z 6), .int .u8 (z 7)], .bool true, v, .int .i64 (x.val : Int), .int .u16 (x.val : Int), .int .u16 ((x.val : Int) * 8192), .int .u32 a, .int .u16 (offI a), .int .u16 ((x.val : Int) * 8192 + offI a), .slice (some ⟨Wa.heap.size, 0, none⟩) 1 1, v2, undef], defers := [] } wS
            obtain rfl : wS = Wc := hS
            have cv := HVC.out.cell
            have fv := HVC.out.frozen
            obtain ⟨g2, cap2, ev2⟩ := HV2.out
            refine wpOpIn_step rfl (fun K hK => ?_)
            subst ev2
            go_simp
            try rw [HWD.out]
            exact hK _ _ ⟨rfl, rfl⟩
        · intro wF hS
          obtain rfl : wF = Wd := hS
          show Exit.inBlock _ _ .normal { tmps := #[.pointer p, .int .u32 a, undef, .pointer (some ⟨w.heap.size, 0, none⟩), .slice none 0 0, .pointer (some ⟨w.heap.size + 1, 0, none⟩), .pointer (some ⟨B, 0, none⟩), .int .i64 (x.val : Int), .pointer p, .agg #[.int .u8 (z 0), .int .u8 (z 1), .int .u8 (z 2), .int .u8 (z 3), .int .u8 (z 4), .int .u8 (z 5), .int .u8 (z 6), .int .u8 (z 7)], .func (.func 128) #[] #[.pointer (some ⟨bn, 0, none⟩)], .int .i64 (x.val : Int), .agg #[.int .u8 (z 0), .int .u8 (z 1), .int .u8 (z 2), .int .u8 (z 3), .int .u8 (z 4), .int .u8 (z 5), .int .u8 (z 6), .int .u8 (z 7)], .int .i64 (x.val : Int), .int .u8 mk, .int .u32 a, .int .u8 (bankI a), .agg Y, .agg #[.int .u8 (z 0), .int .u8 (z 1), .int .u8 (z 2), .int .u8 (z 3), .int .u8 (z 4), .int .u8 (z 5), .int .u8 (z 6), .int .u8 (z 7)], .bool true, v, .int .i64 (x.val : Int), .int .u16 (x.val : Int), .int .u16 ((x.val : Int) * 8192), .int .u32 a, .int .u16 (offI a), .int .u16 ((x.val : Int) * 8192 + offI a), .slice (some ⟨Wa.heap.size, 0, none⟩) 1 1, v2, undef], defers := [] } wF
          gi_wp2
          have hks : KeepsOthers wE Wa := keeps_below kA
          exact ⟨(hko.trans hks).trans hkd, fun h => hbnd (Blk.below (Blk.below h hBe h.lt) kA (Blk.below h hBe h.lt).lt), ⟨⟨v2, hvd, by rw [seL_yes z a pre x HTF.out, List.length_append]; exact hrd, trivial⟩, h0d, h2d⟩, (hBw2.trans (kA.mono hBw2.size)).trans hbd⟩
  case done =>
    rintro D xs W1 hD rfl ⟨⟨⟨v, hv, hr, -⟩, h0, h2⟩, hB⟩ hK
    have c1 := hv.cell
    gi_wp2
    refine ⟨by simp, .inl ⟨_, _, rfl, run_takeDeferred hK, ?_⟩⟩
    exact ⟨_, results_tmp rfl _ _ _, ⟨v, rfl, ownsRow_putObj hr _ hK rfl, hB.trans (belowK_b (w := w) (Nat.le_refl _) W1 D _ _ (by omega) hK rfl rfl)⟩⟩
  case stop =>
    rintro D c pre W1 hD _ h _
    exact h.1.elim
end
end Go.Proofs.YtccimkmlbcgekaaGreat
namespace Go.Proofs.YtccimkmlbcgekaaGreat
open Go.RowKit
set_option linter.unusedVariables false
set_option linter.unusedSimpArgs false
set_option maxRecDepth 100000
theorem wthL_all : wthL (fun i => bitB 255 (i : Int)) 8 = [0, 1, 2, 3, 4, 5, 6, 7] := by decide +kernel
theorem mseen_any {w : World} {g : Nat} {z : Nat → Int} {l : Int} (h : MM w g z l) (hz : ∀ i, i < 8 → 0 ≤ z i ∧ z i ≤ 255) (a : Int) (a0 : 0 ≤ a) (a1 : a ≤ 4294967295) :
    Calls Tryz.prog 30 #[.pointer (some ⟨g, 0, none⟩), .int .u32 a] w fun e w' => ∃ v, e = .returned v ∧ w'.ownsRow w.heap.size 69 1 v (seL z a [0, 1, 2, 3, 4, 5, 6, 7]).length (seL z a [0, 1, 2, 3, 4, 5, 6, 7]) ∧ Below w.heap.size w w' := by
  have := mseen_of (w := w) (p := some ⟨g, 0, none⟩) (fun W hb => banks_any (h.below hb h.lt_)) hz a a0 a1
  rwa [wthL_all] at this
theorem mseen_nil (w : World) : Calls Tryz.prog 30 #[.pointer none, .int .u32 0] w fun e w' => ∃ g c, e = .returned (.slice (some ⟨g, 0, none⟩) 8 c) ∧ Below w.heap.size w w' := by
  have := mseen_of (w := w) (p := none) (z := fun _ => 0) (fun W hb => banks_nil W) (by intro i _; omega) 0 (by omega) (by omega)
  rw [wthL_all] at this
  refine this.mono ?_
  rintro e w' ⟨v, rfl, ho, hb⟩
  obtain ⟨g, c, rfl⟩ := ownsRow_succ (k := 7) (show w'.ownsRow w.heap.size 69 1 v (7 + 1) _ from ho)
  exact ⟨g, c, rfl, hb⟩
def zl (i : Nat) : Int := if i = 1 then 248 else 0
theorem zl_ok : ∀ i, i < 8 → 0 ≤ zl i ∧ zl i ≤ 255 := by intro i _; unfold zl; split <;> omega
theorem zl_mvd : p8 (mvd zl 130 7) = #[.int .u8 0, .int .u8 7, .int .u8 0, .int .u8 0, .int .u8 0, .int .u8 0, .int .u8 0, .int .u8 7] := by
  unfold p8
  rw [show mvd zl 130 7 0 = 0 by decide +kernel, show mvd zl 130 7 1 = 7 by decide +kernel, show mvd zl 130 7 2 = 0 by decide +kernel, show mvd zl 130 7 3 = 0 by decide +kernel, show mvd zl 130 7 4 = 0 by decide +kernel, show mvd zl 130 7 5 = 0 by decide +kernel, show mvd zl 130 7 6 = 0 by decide +kernel, show mvd zl 130 7 7 = 7 by decide +kernel]
def bankEq (f g : Nat → Int) : Prop := ∀ W : World, (Op.equalIn 10000 68 (.agg (p8 f)) (.agg (p8 g))).run Tryz.prog W = .ok ((List.range 8).all fun i => f i == g i) W
theorem bank_eq (f g : Nat → Int) : bankEq f g := fun W => run_eql_ints (n := 8) Tryz.underlying68 Tryz.underlying5 (by kernel_rfl) (by kernel_rfl) 9998 f g W
theorem bank_lit : ∀ W : World, (Op.equalIn 10000 68 (.agg #[.int .u8 0, .int .u8 7, .int .u8 0, .int .u8 0, .int .u8 0, .int .u8 0, .int .u8 0, .int .u8 7]) (.agg #[.int .u8 0, .int .u8 7, .int .u8 0, .int .u8 0, .int .u8 0, .int .u8 0, .int .u8 0, .int .u8 7])).run Tryz.prog W = .ok true W := fun W => by
  have := bank_eq (fun i => if i = 1 then 7 else if i = 7 then 7 else 0) (fun i => if i = 1 then 7 else if i = 7 then 7 else 0) W
  exact this
theorem bank_zero : ∀ W : World, (Op.equalIn 10000 68 (.agg #[.int .u8 0, .int .u8 0, .int .u8 0, .int .u8 0, .int .u8 0, .int .u8 0, .int .u8 0, .int .u8 0]) (.agg #[.int .u8 0, .int .u8 0, .int .u8 0, .int .u8 0, .int .u8 0, .int .u8 0, .int .u8 0, .int .u8 0])).run Tryz.prog W = .ok true W := fun W => by
  have := bank_eq (fun _ => 0) (fun _ => 0) W
  exact this
end Go.Proofs.YtccimkmlbcgekaaGreat
