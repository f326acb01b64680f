/-
  Texts of these proofs, one behind the other: Rst1, Rst2.
-/
import Derived.Test.YtnnfnjbfjgjgnaaDoorKST17
import Derived.Test.YtnnfnjbfjgjgnaaDoorKST37
import Derived.Test.YtnnfnjbfjgjgnaaDoorKST12
namespace Go.Proofs.YtnnfnjbfjgjgnaaDoor
open Go.RowKit
set_option linter.unusedVariables false
set_option linter.unusedSimpArgs false
set_option maxRecDepth 100000
theorem intsOf_snoc_ (k : IntKind) (z : Nat → Int) (n : Nat) : intsOf k z (n + 1) = intsOf k z n ++ [.int k (z n)] := by simp [intsOf, List.range_succ]
set_option maxHeartbeats 16000000 in
theorem rsbytes_any (r : Nat → Int) (hr : StOk r) (w : World) : Calls Tryd.prog 12 #[.agg (stA r)] w fun e w' => (∃ v, e = .returned v ∧ w'.ownsRow w.heap.size 5 1 v 17 (intsOf .u8 (byZ r) 17)) ∧ Below w.heap.size w w' := by
  have HR := Lib.hid hr
  have hp := st_pc hr
  obtain ⟨p, hpp⟩ : ∃ p, r 5 = p := ⟨_, rfl⟩
  have HP := Lib.hid hpp
  rw [hpp] at hp
  obtain ⟨p0, p1⟩ := hp
  have e1 : IntKind.u8.wrap (p % 256) = p % 256 := IntWalk.u8_in _ (by omega)
  have e2 : IntKind.u8.wrap (p / 256) = p / 256 := IntWalk.u8_in _ (by omega)
  have e3 : p.tmod 256 = p % 256 := Int.tmod_eq_emod_of_nonneg p0
  have e4 : p.tdiv 256 = p / 256 := Int.tdiv_eq_ediv_of_nonneg p0
  have k0 : Blk (w.alloc (.cells (stA r) 25)) w.heap.size 25 (stA r) := Blk.new w _ _
  have c0 : (w.alloc (.cells (stA r) 25)).cell? ⟨w.heap.size, 0, none⟩ = some (.int .u8 (r 0)) := k0.cell 0
  have c1 : (w.alloc (.cells (stA r) 25)).cell? ⟨w.heap.size, 1, none⟩ = some (.int .u8 (r 1)) := k0.cell 1
  have c2 : (w.alloc (.cells (stA r) 25)).cell? ⟨w.heap.size, 2, none⟩ = some (.int .u8 (r 2)) := k0.cell 2
  have c3 : (w.alloc (.cells (stA r) 25)).cell? ⟨w.heap.size, 3, none⟩ = some (.int .u8 (r 3)) := k0.cell 3
  have c4 : (w.alloc (.cells (stA r) 25)).cell? ⟨w.heap.size, 4, none⟩ = some (.int .u8 (r 4)) := k0.cell 4
  have c5 : (w.alloc (.cells (stA r) 25)).cell? ⟨w.heap.size, 5, none⟩ = some (.int .u16 p) := (k0.cell 5).trans (by rw [← hpp]; rfl)
  have K0 := Lib.hid k0
  have B0 := Lib.hid ((Below.refl _ w).alloc (Nat.le_refl _) (.cells (stA r) 25))
  have hz0 : (w.alloc (.cells (stA r) 25)).heap.size = w.heap.size + 1 := by simp
  have HZ0 := Lib.hid hz0
  clear hr hpp k0 hz0
  go_enter Tryd.func12, Tryd.ntmps12
  go_upto_region 1 with fail
  generalize World.alloc w _ = w1 at *
  go_upto_region 2 with fail
  have o1 : (w1.alloc (.cells #[.int .u8 (r 0), .int .u8 (r 1), .int .u8 (r 2), .int .u8 (r 3), .int .u8 (r 4), .int .u8 (p % 256), .int .u8 (p / 256)] 5)).ownsRow w.heap.size 5 1 (.slice (some ⟨w1.heap.size, 0, none⟩) 7 7) 7 (intsOf .u8 (byZ r) 7) := by
    have h := World.ownsRow_lit (base := w.heap.size) (e := 5) (size := 1) w1 #[.int .u8 (r 0), .int .u8 (r 1), .int .u8 (r 2), .int .u8 (r 3), .int .u8 (r 4), .int .u8 (p % 256), .int .u8 (p / 256)] 7 (by rw [HZ0.out]; omega) (by unfold maxLen; decide) rfl
    rw [show intsOf .u8 (byZ r) 7 = [.int .u8 (r 0), .int .u8 (r 1), .int .u8 (r 2), .int .u8 (r 3), .int .u8 (r 4), .int .u8 (p % 256), .int .u8 (p / 256)] by rw [← HP.out]; rfl]
    exact h
  have k1 : Blk (w1.alloc (.cells #[.int .u8 (r 0), .int .u8 (r 1), .int .u8 (r 2), .int .u8 (r 3), .int .u8 (r 4), .int .u8 (p % 256), .int .u8 (p / 256)] 5)) w.heap.size 25 (stA r) := K0.out.alloc _
  have b1 : Below w.heap.size w (w1.alloc (.cells #[.int .u8 (r 0), .int .u8 (r 1), .int .u8 (r 2), .int .u8 (r 3), .int .u8 (r 4), .int .u8 (p % 256), .int .u8 (p / 256)] 5)) := B0.out.alloc (by rw [HZ0.out]; omega) _
  have O1 := Lib.hid o1
  have K1 := Lib.hid k1
  have B1 := Lib.hid b1
  clear c0 c1 c2 c3 c4 c5 e1 e2 e3 e4 o1 k1 b1 K0 B0 HZ0
  go_wp2_with fail
  go_loopw [3, 4] (fun v i wr => ∃ q : Nat, q ≤ 8 ∧ i = .int .i64 q ∧ wr.ownsRow w.heap.size 5 1 v (7 + q) (intsOf .u8 (byZ r) (7 + q)) ∧ Blk wr w.heap.size 25 (stA r) ∧ Below w.heap.size w wr) (fun _ i _ => 8 - (intOf i).toNat)
  case atStart => exact ⟨0, by omega, rfl, O1.out, K1.out, B1.out⟩
  case round =>
    clear O1 K1 B1
    obtain ⟨q, hq, rfl, own, hk, hB⟩ := hrel
    by_cases hlt : q < 8
    · have q0 : (0 : Int) ≤ q := by omega
      have q1 : (q : Int) < 8 := by omega
      have cx : wr.cell? ⟨w.heap.size, 6 + q, none⟩ = some (.int .u8 (r (6 + q))) := (hk.cell (6 + q)).trans (stA_at _ _ (by omega) (by omega) (by omega))
      have HN : Hid (intsOf .u8 (byZ r) (7 + (q + 1)) = intsOf .u8 (byZ r) (7 + q) ++ [.int .u8 (r (6 + q))]) := Lib.hid (by
        rw [show 7 + (q + 1) = (7 + q) + 1 by omega, intsOf_snoc_]
        have : byZ r (7 + q) = r (6 + q) := by unfold byZ; rw [if_neg (by omega), if_neg (by omega), if_neg (by omega)]; congr 1; omega
        rw [this])
      obtain ⟨x, hx⟩ : ∃ x, r (6 + q) = x := ⟨_, rfl⟩
      rw [hx] at cx HN
      obtain ⟨v', w', hrun, own', gb⟩ := more_new (P := Tryd.prog) (t := 26) (e := 5) (ty := 26) (c := 1) (m := 1) Tryd.underlying26 u8_inf_ rfl (by decide) own #[.int .u8 x] rfl (fun u hu => by simp at hu; subst hu; rfl) rfl (by omega) (by omega) hB.size
      have k2 := Blk.grown (hk.alloc (.cells #[.int .u8 x] 5)) gb (blk_not_row hk (by decide) own)
      have kB : Below w.heap.size w w' := (hB.alloc hB.size (.cells #[.int .u8 x] 5)).grown gb (by simp; have := hB.size; omega) (fun j h => (own.lt j h).1)
      have KB := Lib.hid kB
      have OW := Lib.hid own'
      have K2 := Lib.hid k2
      clear kB own' gb own hB hx k2 hk
      go_wp2_with (at_builtin; refine wpList_append_run rfl (.tmp 29) (.tmp 34) 26 rfl rfl rfl hrun ?_)
      go_roundw
      case rel => exact ⟨q + 1, by omega, by go_num, by rw [HN.out]; exact OW.out, K2.out, KB.out⟩
      case measure => simp [intOf]; omega
    · obtain rfl : q = 8 := by omega
      have c14 : wr.cell? ⟨w.heap.size, 14, none⟩ = some (.int .u8 (r 14)) := hk.cell 14
      have c15 : wr.cell? ⟨w.heap.size, 15, none⟩ = some (.bool (decide (r 15 = 1))) := hk.cell 15
      have h15 := HR.out 15 (by decide)
      have h150 : 0 ≤ r 15 := h15.1
      have h151 : r 15 ≤ 1 := h15.2
      obtain ⟨x, hx⟩ : ∃ x, r 14 = x := ⟨_, rfl⟩
      have key : ∀ y, r 15 = y → intsOf .u8 (byZ r) 17 = intsOf .u8 (byZ r) 15 ++ [.int .u8 x, .int .u8 y] := fun y hy => by
        rw [intsOf_snoc_, intsOf_snoc_, ← hx, ← hy, List.append_assoc]
        rfl
      rw [hx] at c14
      by_cases hf : r 15 = 1
      · have hb : decide (r 15 = 1) = true := by simp [hf]
        rw [hb] at c15
        have HN := Lib.hid (key 1 hf)
        obtain ⟨v', w', hrun, own', gb⟩ := more_new (P := Tryd.prog) (t := 26) (e := 5) (ty := 26) (c := 2) (m := 2) Tryd.underlying26 u8_inf_ rfl (by decide) own #[.int .u8 x, .int .u8 1] rfl (fun u hu => by simp at hu; rcases hu with rfl | rfl <;> rfl) rfl (by omega) (by omega) hB.size
        have kB : Below w.heap.size w w' := (hB.alloc hB.size (.cells #[.int .u8 x, .int .u8 1] 5)).grown gb (by simp; have := hB.size; omega) (fun j h => (own.lt j h).1)
        have KB := Lib.hid kB
        have OW := Lib.hid own'
        clear kB own' gb own hB hx hk key hf h15 h150 h151
        go_wp2_with (at_builtin; refine wpList_append_run rfl (.tmp 38) (.tmp 42) 26 rfl rfl rfl hrun ?_)
        go_ret
        exact ⟨⟨_, rfl, by rw [HN.out]; exact OW.out⟩, KB.out⟩
      · have hb : decide (r 15 = 1) = false := by simp [hf]
        rw [hb] at c15
        have HN := Lib.hid (key 0 (by omega))
        obtain ⟨v', w', hrun, own', gb⟩ := more_new (P := Tryd.prog) (t := 26) (e := 5) (ty := 26) (c := 2) (m := 2) Tryd.underlying26 u8_inf_ rfl (by decide) own #[.int .u8 x, .int .u8 0] rfl (fun u hu => by simp at hu; rcases hu with rfl | rfl <;> rfl) rfl (by omega) (by omega) hB.size
        have kB : Below w.heap.size w w' := (hB.alloc hB.size (.cells #[.int .u8 x, .int .u8 0] 5)).grown gb (by simp; have := hB.size; omega) (fun j h => (own.lt j h).1)
        have KB := Lib.hid kB
        have OW := Lib.hid own'
        clear kB own' gb own hB hx hk key hf h15 h150 h151
        go_wp2_with (at_builtin; refine wpList_append_run rfl (.tmp 38) (.tmp 42) 26 rfl rfl rfl hrun ?_)
        go_ret
        exact ⟨⟨_, rfl, by rw [HN.out]; exact OW.out⟩, KB.out⟩
theorem own_blk {w : World} {B : Nat} {e : TypeId} {v : Value} {n : Nat} {xs : List Value} (own : w.ownsRow B e 1 v (n + 1) xs) : ∃ g cap cur, v = .slice (some ⟨g, 0, none⟩) (n + 1) cap ∧ B ≤ g ∧ Blk w g e cur ∧ n + 1 ≤ cap ∧ cap ≤ maxLen ∧ ∀ i, i < n + 1 → cur[i]? = xs[i]? := by
  rcases own.2 with ⟨h, h0⟩ | ⟨g, cap, cur, h, hg, hb, hnc, hcm, hs, ht⟩
  · omega
  · refine ⟨g, cap, cur, h, hg, hb, hnc, hcm, fun i hi => ?_⟩
    rw [← ht, List.getElem?_take, if_pos (by omega), Array.getElem?_toList]
set_option maxHeartbeats 4000000 in
theorem rsnames_any (w : World) : Calls Tryd.prog 17 #[] w fun e w' => e = .returned (.slice (some ⟨w.heap.size, 0, none⟩) 16 16) ∧ Blk w' w.heap.size 9 nmA ∧ Below w.heap.size w w' := by
  go_enter Tryd.func17, Tryd.ntmps17
  go_wp2_with fail
  go_ret
  exact ⟨rfl, Blk.new w _ _, (Below.refl _ w).alloc (Nat.le_refl _) _⟩
end Go.Proofs.YtnnfnjbfjgjgnaaDoor
namespace Go.Proofs.YtnnfnjbfjgjgnaaDoor
open Go.RowKit
set_option linter.unusedVariables false
set_option linter.unusedSimpArgs false
set_option maxRecDepth 100000
theorem u16_inf_ : (Tryd.prog.info? 22).map (fun i => (i.zero, i.size, i.bytes)) = some (some (.int .u16 0), 1, 2) := by kernel_rfl
set_option maxHeartbeats 16000000 in
theorem rsall_any (r : Nat → Int) (hr : StOk r) (w : World) : Calls Tryd.prog 18 #[.agg (stA r)] w fun e w' => (∃ v, e = .returned v ∧ w'.ownsRow w.heap.size 22 1 v 16 (intsOf .u16 r 16)) ∧ Below w.heap.size w w' := by
  have HR := Lib.hid hr
  have k0 : Blk (w.alloc (.cells (stA r) 25)) w.heap.size 25 (stA r) := Blk.new w _ _
  have b0 : Below w.heap.size w (w.alloc (.cells (stA r) 25)) := (Below.refl _ w).alloc (Nat.le_refl _) _
  have h8 : (Tryd.prog.info? 25).map (·.size) = some (stA r).size := by rw [stA_size]; exact size_state
  have H8 := Lib.hid h8
  have B0 := Lib.hid b0
  clear hr h8 b0
  go_enter Tryd.func18, Tryd.ntmps18
  go_upto_region 1 with fail
  go_wp2_with (refine wpList_load_row rfl 25 (.tmp 1) rfl w.heap.size (by rfl) 25 (stA r) (0, 0) _ k0 Tryd.underlying25 rfl H8.out ?_)
  refine (rsbytes_any r HR.out _).mono ?_
  rintro e w2 ⟨⟨v, rfl, own⟩, hb⟩
  have hB2 := B0.out.trans (hb.mono B0.out.size)
  have k2 := k0.below hb k0.lt
  obtain ⟨gv, cap, cur, rfl, hgv, hcur, hcc, hcm, hxs⟩ := own_blk (n := 16) own
  have hgw : w.heap.size + 1 ≤ gv := by simpa using hgv
  have hc : ∀ i, i < 17 → w2.cell? ⟨gv, i, none⟩ = some (.int .u8 (byZ r i)) := fun i hi => by rw [hcur.cell, hxs i hi, intsOf_at _ _ _ _ hi]
  obtain ⟨x0, e0⟩ : ∃ x, r 0 = x := ⟨_, rfl⟩
  obtain ⟨x1, e1⟩ : ∃ x, r 1 = x := ⟨_, rfl⟩
  obtain ⟨x2, e2⟩ : ∃ x, r 2 = x := ⟨_, rfl⟩
  obtain ⟨x3, e3⟩ : ∃ x, r 3 = x := ⟨_, rfl⟩
  obtain ⟨x4, e4⟩ : ∃ x, r 4 = x := ⟨_, rfl⟩
  obtain ⟨p, e5⟩ : ∃ x, r 5 = x := ⟨_, rfl⟩
  have y0 := st_le HR.out 0 (by decide) (by decide)
  have y1 := st_le HR.out 1 (by decide) (by decide)
  have y2 := st_le HR.out 2 (by decide) (by decide)
  have y3 := st_le HR.out 3 (by decide) (by decide)
  have y4 := st_le HR.out 4 (by decide) (by decide)
  rw [e0] at y0
  rw [e1] at y1
  rw [e2] at y2
  rw [e3] at y3
  rw [e4] at y4
  have a0 : IntKind.u16.wrap x0 = x0 := IntWalk.u16_in _ (by omega)
  have a1 : IntKind.u16.wrap x1 = x1 := IntWalk.u16_in _ (by omega)
  have a2 : IntKind.u16.wrap x2 = x2 := IntWalk.u16_in _ (by omega)
  have a3 : IntKind.u16.wrap x3 = x3 := IntWalk.u16_in _ (by omega)
  have a4 : IntKind.u16.wrap x4 = x4 := IntWalk.u16_in _ (by omega)
  have HS : Hid (w2.cell? ⟨gv, 0, none⟩ = some (.int .u8 x0) ∧ w2.cell? ⟨gv, 1, none⟩ = some (.int .u8 x1) ∧ w2.cell? ⟨gv, 2, none⟩ = some (.int .u8 x2) ∧ w2.cell? ⟨gv, 3, none⟩ = some (.int .u8 x3) ∧ w2.cell? ⟨gv, 4, none⟩ = some (.int .u8 x4) ∧ w2.cell? ⟨w.heap.size, 5, none⟩ = some (.int .u16 p)) := Lib.hid ⟨(hc 0 (by decide)).trans (by rw [← e0]; rfl), (hc 1 (by decide)).trans (by rw [← e1]; rfl), (hc 2 (by decide)).trans (by rw [← e2]; rfl), (hc 3 (by decide)).trans (by rw [← e3]; rfl), (hc 4 (by decide)).trans (by rw [← e4]; rfl), (k2.cell 5).trans (by rw [← e5]; rfl)⟩
  have HK : ∀ W W', (W.cell? ⟨gv, 0, none⟩ = some (.int .u8 x0) ∧ W.cell? ⟨gv, 1, none⟩ = some (.int .u8 x1) ∧ W.cell? ⟨gv, 2, none⟩ = some (.int .u8 x2) ∧ W.cell? ⟨gv, 3, none⟩ = some (.int .u8 x3) ∧ W.cell? ⟨gv, 4, none⟩ = some (.int .u8 x4) ∧ W.cell? ⟨w.heap.size, 5, none⟩ = some (.int .u16 p)) → Below W.heap.size W W' → (W'.cell? ⟨gv, 0, none⟩ = some (.int .u8 x0) ∧ W'.cell? ⟨gv, 1, none⟩ = some (.int .u8 x1) ∧ W'.cell? ⟨gv, 2, none⟩ = some (.int .u8 x2) ∧ W'.cell? ⟨gv, 3, none⟩ = some (.int .u8 x3) ∧ W'.cell? ⟨gv, 4, none⟩ = some (.int .u8 x4) ∧ W'.cell? ⟨w.heap.size, 5, none⟩ = some (.int .u16 p)) := fun W W' ⟨h0, h1, h2, h3, h4, h5⟩ hb => ⟨(hb.cell (World.block_lt_of_cell? _ _ h0)).trans h0, (hb.cell (World.block_lt_of_cell? _ _ h1)).trans h1, (hb.cell (World.block_lt_of_cell? _ _ h2)).trans h2, (hb.cell (World.block_lt_of_cell? _ _ h3)).trans h3, (hb.cell (World.block_lt_of_cell? _ _ h4)).trans h4, (hb.cell (World.block_lt_of_cell? _ _ h5)).trans h5⟩
  have HKK := Lib.hid HK
  have HXS := Lib.hid (And.intro hxs (And.intro hcur hgw))
  have HB2 := Lib.hid hB2
  have K2 := Lib.hid k2
  have HL : Hid (intsOf .u16 r 6 = #[.int .u16 x0, .int .u16 x1, .int .u16 x2, .int .u16 x3, .int .u16 x4, .int .u16 p].toList) := Lib.hid (by rw [← e0, ← e1, ← e2, ← e3, ← e4, ← e5]; rfl)
  have hcap : (17 : Int) ≤ cap := by omega
  clear hb own k0 k2 hc hxs hcur hgv hgw hB2 HK hcm hcc e0 e1 e2 e3 e4 e5 y0 y1 y2 y3 y4
  go_upto_region 2 with fail
  refine rg_begin (S := fun w' => w'.cell? ⟨gv, 0, none⟩ = some (.int .u8 x0) ∧ w'.cell? ⟨gv, 1, none⟩ = some (.int .u8 x1) ∧ w'.cell? ⟨gv, 2, none⟩ = some (.int .u8 x2) ∧ w'.cell? ⟨gv, 3, none⟩ = some (.int .u8 x3) ∧ w'.cell? ⟨gv, 4, none⟩ = some (.int .u8 x4) ∧ w'.cell? ⟨w.heap.size, 5, none⟩ = some (.int .u16 p)) 24 #[false, false, false, false, false, false, false, false, false, false, false, false, false, false, false, false, false, false, false, false, false, false, false, false] (by kernel_rfl) (by kernel_rfl) (by kernel_rfl) ?_ (fun hHeld => ?_)
  · exact HS.out
  refine rg_take (i := 0) (d := some 8) (l := #[true, false, false, false, false, false, false, false, false, false, false, false, false, false, false, false, false, false, false, false, false, false, false, false]) (fuel := 23) (v := ?_) rfl (by kernel_rfl) (by kernel_rfl) (by kernel_rfl) (by kernel_rfl) (by kernel_rfl) (fun _ _ _ h => h) (by kernel_rfl) ?_ (by assumption) ?_
  rotate_left 1
  · (intro wS hSw; (try dsimp only at hSw); go_simp; try with_reducible rfl)
  try simp only [Act.put, List.setIfInBounds_toArray, List.set_cons_zero, List.set_cons_succ]
  refine rg_take (i := 1) (d := some 9) (l := #[true, true, false, false, false, false, false, false, false, false, false, false, false, false, false, false, false, false, false, false, false, false, false, false]) (fuel := 22) (v := ?_) rfl (by kernel_rfl) (by kernel_rfl) (by kernel_rfl) (by kernel_rfl) (by kernel_rfl) (fun _ _ _ h => h) (by kernel_rfl) ?_ (by assumption) ?_
  rotate_left 1
  · (intro wS hSw; (try dsimp only at hSw); go_simp; try with_reducible rfl)
  try simp only [Act.put, List.setIfInBounds_toArray, List.set_cons_zero, List.set_cons_succ]
  refine rg_take (i := 2) (d := some 10) (l := #[true, true, true, false, false, false, false, false, false, false, false, false, false, false, false, false, false, false, false, false, false, false, false, false]) (fuel := 21) (v := ?_) rfl (by kernel_rfl) (by kernel_rfl) (by kernel_rfl) (by kernel_rfl) (by kernel_rfl) (fun _ _ _ h => h) (by kernel_rfl) ?_ (by assumption) ?_
  rotate_left 1
  · (intro wS hSw; (try dsimp only at hSw); go_simp; try with_reducible rfl)
  try simp only [Act.put, List.setIfInBounds_toArray, List.set_cons_zero, List.set_cons_succ]
  refine rg_take (i := 3) (d := some 11) (l := #[true, true, true, true, false, false, false, false, false, false, false, false, false, false, false, false, false, false, false, false, false, false, false, false]) (fuel := 20) (v := ?_) rfl (by kernel_rfl) (by kernel_rfl) (by kernel_rfl) (by kernel_rfl) (by kernel_rfl) (fun _ _ _ h => h) (by kernel_rfl) ?_ (by assumption) ?_
  rotate_left 1
  · (intro wS hSw; (try dsimp only at hSw); go_simp; try with_reducible rfl)
  try simp only [Act.put, List.setIfInBounds_toArray, List.set_cons_zero, List.set_cons_succ]
  refine rg_take (i := 4) (d := some 12) (l := #[true, true, true, true, true, false, false, false, false, false, false, false, false, false, false, false, false, false, false, false, false, false, false, false]) (fuel := 19) (v := ?_) rfl (by kernel_rfl) (by kernel_rfl) (by kernel_rfl) (by kernel_rfl) (by kernel_rfl) (fun _ _ _ h => h) (by kernel_rfl) ?_ (by assumption) ?_
  rotate_left 1
  · (intro wS hSw; (try dsimp only at hSw); go_simp; try with_reducible rfl)
  try simp only [Act.put, List.setIfInBounds_toArray, List.set_cons_zero, List.set_cons_succ]
  refine rg_take (i := 5) (d := some 13) (l := #[true, true, true, true, true, true, false, false, false, false, false, false, false, false, false, false, false, false, false, false, false, false, false, false]) (fuel := 18) (v := ?_) rfl (by kernel_rfl) (by kernel_rfl) (by kernel_rfl) (by kernel_rfl) (by kernel_rfl) (fun _ _ _ h => h) (by kernel_rfl) ?_ (by assumption) ?_
  rotate_left 1
  · (intro wS hSw; (try dsimp only at hSw); go_simp; try with_reducible rfl)
  try simp only [Act.put, List.setIfInBounds_toArray, List.set_cons_zero, List.set_cons_succ]
  refine rg_take (i := 6) (d := some 14) (l := #[true, true, true, true, true, true, true, false, false, false, false, false, false, false, false, false, false, false, false, false, false, false, false, false]) (fuel := 17) (v := ?_) rfl (by kernel_rfl) (by kernel_rfl) (by kernel_rfl) (by kernel_rfl) (by kernel_rfl) (fun _ _ _ h => h) (by kernel_rfl) ?_ (by assumption) ?_
  rotate_left 1
  · (intro wS hSw; (try dsimp only at hSw); go_simp; try with_reducible rfl)
  try simp only [Act.put, List.setIfInBounds_toArray, List.set_cons_zero, List.set_cons_succ]
  refine rg_take (i := 7) (d := some 15) (l := #[true, true, true, true, true, true, true, true, false, false, false, false, false, false, false, false, false, false, false, false, false, false, false, false]) (fuel := 16) (v := ?_) rfl (by kernel_rfl) (by kernel_rfl) (by kernel_rfl) (by kernel_rfl) (by kernel_rfl) (fun _ _ _ h => h) (by kernel_rfl) ?_ (by assumption) ?_
  rotate_left 1
  · (intro wS hSw; (try dsimp only at hSw); go_simp; try with_reducible rfl)
  try simp only [Act.put, List.setIfInBounds_toArray, List.set_cons_zero, List.set_cons_succ]
  refine rg_take (i := 8) (d := some 16) (l := #[true, true, true, true, true, true, true, true, true, false, false, false, false, false, false, false, false, false, false, false, false, false, false, false]) (fuel := 15) (v := ?_) rfl (by kernel_rfl) (by kernel_rfl) (by kernel_rfl) (by kernel_rfl) (by kernel_rfl) (fun _ _ _ h => h) (by kernel_rfl) ?_ (by assumption) ?_
  rotate_left 1
  · (intro wS hSw; (try dsimp only at hSw); go_simp; try with_reducible rfl)
  try simp only [Act.put, List.setIfInBounds_toArray, List.set_cons_zero, List.set_cons_succ]
  refine rg_take (i := 9) (d := some 17) (l := #[true, true, true, true, true, true, true, true, true, true, false, false, false, false, false, false, false, false, false, false, false, false, false, false]) (fuel := 14) (v := ?_) rfl (by kernel_rfl) (by kernel_rfl) (by kernel_rfl) (by kernel_rfl) (by kernel_rfl) (fun _ _ _ h => h) (by kernel_rfl) ?_ (by assumption) ?_
  rotate_left 1
  · (intro wS hSw; (try dsimp only at hSw); go_simp; try with_reducible rfl)
  try simp only [Act.put, List.setIfInBounds_toArray, List.set_cons_zero, List.set_cons_succ]
  refine rg_take (i := 10) (d := some 18) (l := #[true, true, true, true, true, true, true, true, true, true, true, false, false, false, false, false, false, false, false, false, false, false, false, false]) (fuel := 13) (v := ?_) rfl (by kernel_rfl) (by kernel_rfl) (by kernel_rfl) (by kernel_rfl) (by kernel_rfl) (fun _ _ _ h => h) (by kernel_rfl) ?_ (by assumption) ?_
  rotate_left 1
  · (intro wS hSw; (try dsimp only at hSw); go_simp; try with_reducible rfl)
  try simp only [Act.put, List.setIfInBounds_toArray, List.set_cons_zero, List.set_cons_succ]
  refine rg_take (i := 11) (d := some 19) (l := #[true, true, true, true, true, true, true, true, true, true, true, true, false, false, false, false, false, false, false, false, false, false, false, false]) (fuel := 12) (v := ?_) rfl (by kernel_rfl) (by kernel_rfl) (by kernel_rfl) (by kernel_rfl) (by kernel_rfl) (fun _ _ _ h => h) (by kernel_rfl) ?_ (by assumption) ?_
  rotate_left 1
  · (intro wS hSw; (try dsimp only at hSw); go_simp; try with_reducible rfl)
  try simp only [Act.put, List.setIfInBounds_toArray, List.set_cons_zero, List.set_cons_succ]
  refine rg_take (i := 12) (d := some 20) (l := #[true, true, true, true, true, true, true, true, true, true, true, true, true, false, false, false, false, false, false, false, false, false, false, false]) (fuel := 11) (v := ?_) rfl (by kernel_rfl) (by kernel_rfl) (by kernel_rfl) (by kernel_rfl) (by kernel_rfl) (fun _ _ _ h => h) (by kernel_rfl) ?_ (by assumption) ?_
  rotate_left 1
  · (intro wS hSw; (try dsimp only at hSw); go_simp; try with_reducible rfl)
  try simp only [Act.put, List.setIfInBounds_toArray, List.set_cons_zero, List.set_cons_succ]
  refine rg_take (i := 13) (d := some 21) (l := #[true, true, true, true, true, true, true, true, true, true, true, true, true, true, false, false, false, false, false, false, false, false, false, false]) (fuel := 10) (v := ?_) rfl (by kernel_rfl) (by kernel_rfl) (by kernel_rfl) (by kernel_rfl) (by kernel_rfl) (fun _ _ _ h => h) (by kernel_rfl) ?_ (by assumption) ?_
  rotate_left 1
  · (intro wS hSw; (try dsimp only at hSw); go_simp; try with_reducible rfl)
  try simp only [Act.put, List.setIfInBounds_toArray, List.set_cons_zero, List.set_cons_succ]
  refine rg_take (i := 14) (d := some 22) (l := #[true, true, true, true, true, true, true, true, true, true, true, true, true, true, true, false, false, false, false, false, false, false, false, false]) (fuel := 9) (v := ?_) rfl (by kernel_rfl) (by kernel_rfl) (by kernel_rfl) (by kernel_rfl) (by kernel_rfl) (fun _ _ _ h => h) (by kernel_rfl) ?_ (by assumption) ?_
  rotate_left 1
  · (intro wS hSw; (try dsimp only at hSw); go_simp; try with_reducible rfl)
  try simp only [Act.put, List.setIfInBounds_toArray, List.set_cons_zero, List.set_cons_succ]
  refine rg_take (i := 15) (d := some 23) (l := #[true, true, true, true, true, true, true, true, true, true, true, true, true, true, true, true, false, false, false, false, false, false, false, false]) (fuel := 8) (v := ?_) rfl (by kernel_rfl) (by kernel_rfl) (by kernel_rfl) (by kernel_rfl) (by kernel_rfl) (fun _ _ _ h => h) (by kernel_rfl) ?_ (by assumption) ?_
  rotate_left 1
  · (intro wS hSw; (try dsimp only at hSw); go_simp; try with_reducible rfl)
  try simp only [Act.put, List.setIfInBounds_toArray, List.set_cons_zero, List.set_cons_succ]
  refine rg_take (i := 16) (d := some 24) (l := #[true, true, true, true, true, true, true, true, true, true, true, true, true, true, true, true, true, false, false, false, false, false, false, false]) (fuel := 7) (v := ?_) rfl (by kernel_rfl) (by kernel_rfl) (by kernel_rfl) (by kernel_rfl) (by kernel_rfl) (fun _ _ _ h => h) (by kernel_rfl) ?_ (by assumption) ?_
  rotate_left 1
  · (intro wS hSw; (try dsimp only at hSw); go_simp; try with_reducible rfl)
  try simp only [Act.put, List.setIfInBounds_toArray, List.set_cons_zero, List.set_cons_succ]
  refine rg_take (i := 17) (d := some 25) (l := #[true, true, true, true, true, true, true, true, true, true, true, true, true, true, true, true, true, true, false, false, false, false, false, false]) (fuel := 6) (v := ?_) rfl (by kernel_rfl) (by kernel_rfl) (by kernel_rfl) (by kernel_rfl) (by kernel_rfl) (fun _ _ _ h => h) (by kernel_rfl) ?_ (by assumption) ?_
  rotate_left 1
  · (intro wS hSw; (try dsimp only at hSw); go_simp; try with_reducible rfl)
  try simp only [Act.put, List.setIfInBounds_toArray, List.set_cons_zero, List.set_cons_succ]
  refine rg_take (i := 18) (d := some 26) (l := #[true, true, true, true, true, true, true, true, true, true, true, true, true, true, true, true, true, true, true, false, false, false, false, false]) (fuel := 5) (v := ?_) rfl (by kernel_rfl) (by kernel_rfl) (by kernel_rfl) (by kernel_rfl) (by kernel_rfl) (fun _ _ _ h => h) (by kernel_rfl) ?_ (by assumption) ?_
  rotate_left 1
  · (intro wS hSw; (try dsimp only at hSw); go_simp; try with_reducible rfl)
  try simp only [Act.put, List.setIfInBounds_toArray, List.set_cons_zero, List.set_cons_succ]
  refine rg_take (i := 19) (d := some 27) (l := #[true, true, true, true, true, true, true, true, true, true, true, true, true, true, true, true, true, true, true, true, false, false, false, false]) (fuel := 4) (v := ?_) rfl (by kernel_rfl) (by kernel_rfl) (by kernel_rfl) (by kernel_rfl) (by kernel_rfl) (fun _ _ _ h => h) (by kernel_rfl) ?_ (by assumption) ?_
  rotate_left 1
  · (intro wS hSw; (try dsimp only at hSw); go_simp; try with_reducible rfl)
  try simp only [Act.put, List.setIfInBounds_toArray, List.set_cons_zero, List.set_cons_succ]
  refine rg_take (i := 20) (d := some 28) (l := #[true, true, true, true, true, true, true, true, true, true, true, true, true, true, true, true, true, true, true, true, true, false, false, false]) (fuel := 3) (v := ?_) rfl (by kernel_rfl) (by kernel_rfl) (by kernel_rfl) (by kernel_rfl) (by kernel_rfl) (fun _ _ _ h => h) (by kernel_rfl) ?_ (by assumption) ?_
  rotate_left 1
  · (intro wS hSw; (try dsimp only at hSw); go_simp; try with_reducible rfl)
  try simp only [Act.put, List.setIfInBounds_toArray, List.set_cons_zero, List.set_cons_succ]
  refine rg_take (i := 21) (d := some 29) (l := #[true, true, true, true, true, true, true, true, true, true, true, true, true, true, true, true, true, true, true, true, true, true, false, false]) (fuel := 2) (v := ?_) rfl (by kernel_rfl) (by kernel_rfl) (by kernel_rfl) (by kernel_rfl) (by kernel_rfl) (fun _ _ _ h => h) (by kernel_rfl) ?_ (by assumption) ?_
  rotate_left 1
  · (intro wS hSw; (try dsimp only at hSw); go_simp; try with_reducible rfl)
  try simp only [Act.put, List.setIfInBounds_toArray, List.set_cons_zero, List.set_cons_succ]
  refine rg_next (i := 22) (l := #[true, true, true, true, true, true, true, true, true, true, true, true, true, true, true, true, true, true, true, true, true, true, true, false]) (fuel := 1) (by kernel_rfl) rfl (by kernel_rfl) (by kernel_rfl) (fun K hK => ?_)
  go_simp
  skip
  first | (refine hK.out _ _ ?_ (fun hHeld => ?_)) | (go_wp2_with fail; refine hK.out _ _ ?_ (fun hHeld => ?_))
  · (try dsimp only); exact HKK.out _ _ HS.out (by exact ((Below.refl _ w2).alloc (Nat.le_refl _) (.cells #[.int .u16 x0, .int .u16 x1, .int .u16 x2, .int .u16 x3, .int .u16 x4, .int .u16 p] 22)).drew)
  clear hK K
  try simp only [Act.put, List.setIfInBounds_toArray, List.set_cons_zero, List.set_cons_succ]
  refine rg_take (i := 23) (d := some 4) (l := #[true, true, true, true, true, true, true, true, true, true, true, true, true, true, true, true, true, true, true, true, true, true, true, true]) (fuel := 0) (v := ?_) rfl (by kernel_rfl) (by kernel_rfl) (by kernel_rfl) (by kernel_rfl) (by kernel_rfl) (fun _ _ _ h => h) (by kernel_rfl) ?_ (by assumption) ?_
  rotate_left 1
  · (intro wS hSw; (try dsimp only at hSw); go_simp; try with_reducible rfl)
  try simp only [Act.put, List.setIfInBounds_toArray, List.set_cons_zero, List.set_cons_succ]
  refine wpAnyH_done (by kernel_rfl) ?_ _
  clear hHeld HKK
  have O3 : Hid ((w2.alloc (.cells #[.int .u16 x0, .int .u16 x1, .int .u16 x2, .int .u16 x3, .int .u16 x4, .int .u16 p] 22)).ownsRow w.heap.size 22 1 (.slice (some ⟨w2.heap.size, 0, none⟩) 6 6) 6 (intsOf .u16 r 6)) := Lib.hid (by
    have h := World.ownsRow_lit (base := w.heap.size) (e := 22) (size := 1) w2 #[.int .u16 x0, .int .u16 x1, .int .u16 x2, .int .u16 x3, .int .u16 x4, .int .u16 p] 6 HB2.out.size (by unfold maxLen; decide) rfl
    rw [HL.out]
    exact h)
  have C3 := Lib.hid (HXS.out.2.1.alloc (.cells #[.int .u16 x0, .int .u16 x1, .int .u16 x2, .int .u16 x3, .int .u16 x4, .int .u16 p] 22))
  have B3 := Lib.hid (HB2.out.alloc HB2.out.size (.cells #[.int .u16 x0, .int .u16 x1, .int .u16 x2, .int .u16 x3, .int .u16 x4, .int .u16 p] 22))
  go_wp2_with fail
  go_loopw [4, 5] (fun v i wr => ∃ q : Nat, q ≤ 10 ∧ i = .int .i64 ((7 + q : Nat) : Int) ∧ wr.ownsRow w.heap.size 22 1 v (6 + q) (intsOf .u16 r (6 + q)) ∧ Blk wr gv 5 cur ∧ Below w.heap.size w wr) (fun _ i _ => 17 - (intOf i).toNat)
  case atStart => exact ⟨0, by omega, rfl, O3.out, C3.out, B3.out.drew⟩
  case round =>
    clear O3 C3 B3 HS
    obtain ⟨q, hq, rfl, own, hk, hB⟩ := hrel
    obtain ⟨i, hi⟩ : ∃ i, 7 + q = i := ⟨_, rfl⟩
    rw [hi]
    by_cases hlt : q < 10
    · have q0 : (0 : Int) ≤ i := by omega
      have q1 : (i : Int) < 17 := by omega
      have q2 : (i : Int) < cap := by omega
      have cx : wr.cell? ⟨gv, i, none⟩ = some (.int .u8 (r (6 + q))) := by
        rw [hk.cell, HXS.out.1 i (by omega), intsOf_at _ _ _ _ (by omega)]
        have : byZ r i = r (6 + q) := by rw [← hi]; unfold byZ; rw [if_neg (by omega), if_neg (by omega), if_neg (by omega)]; congr 1; omega
        rw [this]
      have HN : Hid (intsOf .u16 r (6 + (q + 1)) = intsOf .u16 r (6 + q) ++ [.int .u16 (r (6 + q))]) := Lib.hid (by
        rw [show 6 + (q + 1) = (6 + q) + 1 by omega, intsOf_snoc_])
      have y := st_le HR.out (6 + q) (by omega) (by omega)
      obtain ⟨x, hx⟩ : ∃ x, r (6 + q) = x := ⟨_, rfl⟩
      rw [hx] at cx HN y
      have ew : IntKind.u16.wrap x = x := IntWalk.u16_in _ (by omega)
      obtain ⟨v', w', hrun, own', gb⟩ := more_new (P := Tryd.prog) (t := 39) (e := 22) (ty := 39) (c := 1) (m := 1) Tryd.underlying39 u16_inf_ rfl (by decide) own #[.int .u16 x] rfl (fun u hu => by simp at hu; subst hu; rfl) rfl (by omega) (by omega) hB.size
      have k2 := Blk.grown (hk.alloc (.cells #[.int .u16 x] 22)) gb (blk_not_row hk (by decide) own)
      have kB : Below w.heap.size w w' := (hB.alloc hB.size (.cells #[.int .u16 x] 22)).grown gb (by simp; have := hB.size; omega) (fun j h => (own.lt j h).1)
      have KB := Lib.hid kB
      have OW := Lib.hid own'
      have K2 := Lib.hid k2
      have HI := Lib.hid hi
      clear kB own' gb own hB hx k2 hk hi y
      go_wp2_with (at_builtin; refine wpList_append_run rfl (.tmp 35) (.tmp 41) 39 rfl rfl rfl hrun ?_)
      go_roundw
      case rel => exact ⟨q + 1, by omega, by have := HI.out; go_num, by rw [HN.out]; exact OW.out, K2.out, KB.out⟩
      case measure => have := HI.out; simp [intOf]; omega
    · obtain rfl : q = 10 := by omega
      subst hi
      have HB := Lib.hid hB
      have OW := Lib.hid own
      clear own hB hk
      go_wp2_with fail
      go_ret
      exact ⟨⟨_, rfl, OW.out⟩, HB.out⟩
end Go.Proofs.YtnnfnjbfjgjgnaaDoor
