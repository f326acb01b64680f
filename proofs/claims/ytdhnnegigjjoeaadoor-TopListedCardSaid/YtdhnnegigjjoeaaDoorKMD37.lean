/-
  Texts of these proofs, one behind the other: Mod14, Mod15, Mrc1, Mrc2, Mrc3.
-/
import Derived.Test.YtdhnnegigjjoeaaDoorKMD36
import Derived.Test.YtdhnnegigjjoeaaDoorKMD25
import Derived.Test.YtdhnnegigjjoeaaDoorKMD01
import Derived.Deep.RegionWith
namespace Go.Proofs.YtdhnnegigjjoeaaDoor
open Go.RowKit
set_option linter.unusedVariables false
set_option linter.unusedSimpArgs false
set_option maxRecDepth 100000
theorem ptrP_shape (m n : Nat) (z : Nat → Int) (x : Int) : ∃ (a b : Int) (o : Bool), ptrP m n z x = #[.int .u16 a, .int .u16 b, .bool o] := by
  unfold ptrP zpP wpP
  repeat' split
  all_goals exact ⟨_, _, _, rfl⟩
theorem addP_shape (m n : Nat) (z : Nat → Int) (x y g : Int) : ∃ (a : Int) (o : Bool), addP m n z x y g = #[.int .u16 a, .bool o] := by
  unfold addP
  split
  · split <;> exact ⟨_, _, rfl⟩
  · exact ⟨_, _, rfl⟩
theorem lnRow {w : World} {B m cap : Nat} {pv : Option Addr} {z : Nat → Int} {n : Nat} {a : Int} (own : w.ownsRow B 9 1 (.slice pv m cap) m (lnV z n a m)) : ∀ k, k < m → ∃ ad : Addr, pv = some ad ∧ ad.block < w.heap.size ∧ w.cell? (ad.add k) = some (.string (mkS (lnU z n a (lposN z n k)))) := fun k hk => by
  rcases own.2 with ⟨h, h0⟩ | ⟨g, cap2, cur, h, _, hb, _, _, hs, ht⟩
  · omega
  · cases h
    refine ⟨_, rfl, (Array.getElem?_eq_some_iff.1 hb).1, ?_⟩
    have e1 : (cur.toList.take (m * 1))[k]? = (lnV z n a m)[k]? := by rw [ht]
    have e2 : (lnV z n a m)[k]? = some (.string (mkS (lnU z n a (lposN z n k)))) := by unfold lnV; rw [List.getElem?_map, List.getElem?_range hk]; rfl
    rw [e2, List.getElem?_take, if_pos (by omega), Array.getElem?_toList] at e1
    rw [show (⟨g, 0, none⟩ : Addr).add k = ⟨g, k, none⟩ by unfold Addr.add; split <;> simp_all]
    simp [World.cell?, hb, e1]
theorem q24_ptr (w : World) : Calls Tryd.prog 8 #[.int .u8 9, .slice (some ⟨w.heap.size, 0, none⟩) 1 1, .int .u8 1] (w.alloc (.cells #[.int .u8 255] 5)) fun e w' => e = .returned (.tuple #[.int .u16 8192, .int .u16 8193, .bool true]) ∧ Below w.heap.size w w' :=
  (asV (mptr_any 9 _ 1 1 (fun _ => 255) 1 (by decide) (by decide) _ (IRow.one (Blk.new w _ _) (by decide) (by decide))) (by kernel_rfl)).mono fun e w' ⟨h, hb⟩ => ⟨h, ((Below.refl _ w).alloc (Nat.le_refl _) _).trans (hb.mono (by simp))⟩
theorem q24_adr (w : World) : Calls Tryd.prog 10 #[.int .u8 3, .slice (some ⟨w.heap.size, 0, none⟩) 1 1, .int .u8 2, .int .u8 0, .int .u16 0] (w.alloc (.cells #[.int .u8 255] 5)) fun e w' => e = .returned (.tuple #[.int .u16 8193, .bool true]) ∧ Below w.heap.size w w' :=
  (asV (maddr_any 3 (by decide) _ 1 1 (by decide) (fun _ => 255) 2 0 0 (by decide) (by decide) (by decide) (by decide) (by decide) (by decide) _ (IRow.one (Blk.new w _ _) (by decide) (by decide))) (by kernel_rfl)).mono fun e w' ⟨h, hb⟩ => ⟨h, ((Below.refl _ w).alloc (Nat.le_refl _) _).trans (hb.mono (by simp))⟩
theorem q24_reach (w : World) : Calls Tryd.prog 15 #[.int .u16 4098, .int .u16 4096] w fun e w' => e = .returned (.tuple #[.int .u8 254, .int .i64 0]) ∧ w = w' :=
  asV (mreach_any 4098 4096 (by decide) (by decide) (by decide) (by decide) w) (by kernel_rfl)
def z24 (x y : Int) : Nat → Int := fun i => if i = 0 then x else y
theorem q24_list (w : World) : Calls Tryd.prog 21 #[.slice (some ⟨w.heap.size, 0, none⟩) 2 2, .int .u16 65535] (w.alloc (.cells #[.int .u8 234, .int .u8 11] 5)) fun e w' => (∃ g cap, e = .returned (.slice (some ⟨g, 0, none⟩) 2 cap) ∧ w'.cell? ⟨g, 1, none⟩ = some (.string ⟨#[48, 48, 48, 48, 58, 32, 46, 98, 121, 116, 101, 32, 36, 48, 66]⟩)) ∧ Below w.heap.size w w' := by
  refine (mlisting_any _ 2 2 (z24 234 11) 65535 (by decide) (by decide) (by decide) (by decide) _ (IRow.two (Blk.new w _ _) (by decide) (by decide) (by decide) (by decide))).mono fun e w' h => ?_
  obtain ⟨v, m, rfl, own, hall, hend, hB⟩ := h
  have p0 : lposN (z24 234 11) 2 0 = 0 := rfl
  have p1 : lposN (z24 234 11) 2 1 = 1 := by decide +kernel
  have p2 : lposN (z24 234 11) 2 2 = 2 := by decide +kernel
  have hm : m = 2 := by
    rcases Nat.lt_or_ge m 3 with h | h
    · have : m = 0 ∨ m = 1 ∨ m = 2 := by omega
      rcases this with rfl | rfl | rfl
      · omega
      · omega
      · rfl
    · have := hall 2 (by omega)
      omega
  subst hm
  obtain ⟨g, cap, rfl⟩ := ownsRow_succ own
  refine ⟨⟨g, cap, rfl, ?_⟩, ((Below.refl _ w).alloc (Nat.le_refl _) _).trans (hB.mono (by simp))⟩
  obtain ⟨ad, e1, _, hc⟩ := lnRow own 1 (by decide)
  cases e1
  rw [p1] at hc
  have e2 : mkS (lnU (z24 234 11) 2 65535 1) = ⟨#[48, 48, 48, 48, 58, 32, 46, 98, 121, 116, 101, 32, 36, 48, 66]⟩ := by decide +kernel
  rw [e2] at hc
  exact hc
theorem q24_text2 (x y a : Int) (x0 : 0 ≤ x) (x1 : x ≤ 255) (y0 : 0 ≤ y) (y1 : y ≤ 255) (a0 : 0 ≤ a) (a1 : a ≤ 65535) (w : World) : Calls Tryd.prog 20 #[.slice (some ⟨w.heap.size, 0, none⟩) 2 2, .int .u16 a] (w.alloc (.cells #[.int .u8 x, .int .u8 y] 5)) fun e w' => e = .returned (.string (mkS (txU (z24 x y) 2 a))) ∧ Below w.heap.size w w' :=
  (mtext_any _ 2 2 _ a a0 a1 (by decide) (by decide) _ (IRow.two (Blk.new w _ _) x0 x1 y0 y1)).mono fun e w' ⟨h, hb⟩ => ⟨h, ((Below.refl _ w).alloc (Nat.le_refl _) _).trans (hb.mono (by simp))⟩
theorem q24_lda (w : World) : Calls Tryd.prog 20 #[.slice (some ⟨w.heap.size, 0, none⟩) 2 2, .int .u16 0] (w.alloc (.cells #[.int .u8 177, .int .u8 32] 5)) fun e w' => e = .returned (.string ⟨#[76, 68, 65, 32, 40, 36, 50, 48, 41, 44, 89]⟩) ∧ Below w.heap.size w w' :=
  asV (q24_text2 177 32 0 (by decide) (by decide) (by decide) (by decide) (by decide) (by decide) w) (by kernel_rfl)
theorem q24_bne (w : World) : Calls Tryd.prog 20 #[.slice (some ⟨w.heap.size, 0, none⟩) 2 2, .int .u16 4096] (w.alloc (.cells #[.int .u8 208, .int .u8 254] 5)) fun e w' => e = .returned (.string ⟨#[66, 78, 69, 32, 36, 49, 48, 48, 48]⟩) ∧ Below w.heap.size w w' :=
  asV (q24_text2 208 254 4096 (by decide) (by decide) (by decide) (by decide) (by decide) (by decide) w) (by kernel_rfl)
theorem q24_byte (w : World) : Calls Tryd.prog 20 #[.slice (some ⟨w.heap.size, 0, none⟩) 1 1, .int .u16 0] (w.alloc (.cells #[.int .u8 11] 5)) fun e w' => e = .returned (.string ⟨#[46, 98, 121, 116, 101, 32, 36, 48, 66]⟩) ∧ Below w.heap.size w w' :=
  (asV (mtext_any _ 1 1 (fun _ => 11) 0 (by decide) (by decide) (by decide) (by decide) _ (IRow.one (Blk.new w _ _) (by decide) (by decide))) (by kernel_rfl)).mono fun e w' ⟨h, hb⟩ => ⟨h, ((Below.refl _ w).alloc (Nat.le_refl _) _).trans (hb.mono (by simp))⟩
theorem q24_behind (w : World) : Calls Tryd.prog 12 #[.int .u8 99] w fun e w' => e = .returned (.int .i64 (-1)) ∧ w = w' := asV (mbehind_any 99 w) (by kernel_rfl)
theorem q24_target (w : World) : Calls Tryd.prog 14 #[.int .u16 65535, .int .u8 1] w fun e w' => e = .returned (.int .u16 0) ∧ w = w' := asV (mtarget_any 65535 1 (by decide) (by decide) (by decide) (by decide) w) (by kernel_rfl)
set_option maxHeartbeats 8000000 in
theorem live24 {w : World} : Calls Tryd.prog 7 #[] w fun e w' => e = .returned (.bool true) ∧ Below w.heap.size w w' := by
  go_enter Tryd.func7, Tryd.ntmps7
  go_wp2_with fail
  refine (q24_ptr _).mono ?_
  rintro e w1 ⟨rfl, b⟩
  have HB1 := Lib.hid b
  clear b
  go_wp2_with fail
  refine (q24_adr _).mono ?_
  rintro e w2 ⟨rfl, b⟩
  have HB2 := Lib.hid (HB1.out.trans (b.mono HB1.out.size))
  clear b
  go_wp2_with fail
  refine (q24_reach _).mono ?_
  rintro e w' ⟨rfl, rfl⟩
  go_wp2_with fail
  refine (q24_list _).mono ?_
  rintro e w3 ⟨⟨g, cap, rfl, hc⟩, b⟩
  have HB3 := Lib.hid (HB2.out.trans (b.mono HB2.out.size))
  clear b
  go_wp2_with fail
  refine (q24_lda _).mono ?_
  rintro e w4 ⟨rfl, b⟩
  have hl3 := cell_lt hc
  replace hc := (b.cell (by exact hl3)).trans hc
  have HB4 := Lib.hid (HB3.out.trans (b.mono HB3.out.size))
  clear b
  go_wp2_with fail
  refine (q24_bne _).mono ?_
  rintro e w5 ⟨rfl, b⟩
  have hl4 := cell_lt hc
  replace hc := (b.cell (by exact hl4)).trans hc
  have HB5 := Lib.hid (HB4.out.trans (b.mono HB4.out.size))
  clear b
  go_wp2_with fail
  refine (q24_byte _).mono ?_
  rintro e w6 ⟨rfl, b⟩
  have hl5 := cell_lt hc
  replace hc := (b.cell (by exact hl5)).trans hc
  have HB6 := Lib.hid (HB5.out.trans (b.mono HB5.out.size))
  clear b
  go_wp2_with fail
  refine (q24_behind _).mono ?_
  rintro e w' ⟨rfl, rfl⟩
  go_wp2_with fail
  refine (q24_target _).mono ?_
  rintro e w' ⟨rfl, rfl⟩
  go_wp2_with fail
  go_outline
  go_ret
  exact ⟨rfl, HB6.out⟩
end Go.Proofs.YtdhnnegigjjoeaaDoor
namespace Go.Proofs.YtdhnnegigjjoeaaDoor
open Go.RowKit
set_option linter.unusedVariables false
set_option linter.unusedSimpArgs false
set_option maxRecDepth 100000
theorem tgtP_bd (b d : Int) : 0 ≤ tgtP b d ∧ tgtP b d ≤ 65535 := by unfold tgtP; omega
theorem reach_back (b d : Int) (d0 : 0 ≤ d) (d1 : d ≤ 255) : mrcP b (tgtP b d) = #[.int .u8 d, .int .i64 0] := by
  have h : (tgtP b d - b) % 256 = d := by
    unfold tgtP
    split <;> omega
  unfold mrcP
  rw [h, if_pos rfl]
/-- How far it is, the shorter way around. -/
def reachO (b t : Int) : Int := if 32767 < t - b then t - b - 65536 else if t - b < -32768 then t - b + 65536 else t - b
theorem reachO_mod (b t : Int) (b0 : 0 ≤ b) (b1 : b ≤ 65535) (t0 : 0 ≤ t) (t1 : t ≤ 65535) : -32768 ≤ reachO b t ∧ reachO b t ≤ 32767 ∧ (b + reachO b t) % 65536 = t ∧ (t - b) % 256 = reachO b t % 256 := by
  unfold reachO
  split
  · omega
  · split <;> omega
theorem reach_in (b t : Int) (b0 : 0 ≤ b) (b1 : b ≤ 65535) (t0 : 0 ≤ t) (t1 : t ≤ 65535) (h0 : -128 ≤ reachO b t) (h1 : reachO b t ≤ 127) : mrcP b t = #[.int .u8 (reachO b t % 256), .int .i64 0] := by
  obtain ⟨a1, a2, a3, a4⟩ := reachO_mod b t b0 b1 t0 t1
  unfold mrcP
  rw [a4, if_pos]
  unfold tgtP
  split <;> omega
theorem reach_out (b t : Int) (b0 : 0 ≤ b) (b1 : b ≤ 65535) (t0 : 0 ≤ t) (t1 : t ≤ 65535) (h : reachO b t < -128 ∨ 127 < reachO b t) : mrcP b t = #[.int .u8 0, .int .i64 1] := by
  obtain ⟨a1, a2, a3, a4⟩ := reachO_mod b t b0 b1 t0 t1
  unfold mrcP
  rw [if_neg]
  unfold tgtP
  split <;> omega
theorem dstP_cases (m n : Nat) (z : Nat → Int) : (dstP m n z = #[.int .u8 0, .bool false] ∧ ¬ ((n : Int) = mbP m ∧ (m = 11 ∨ m = 12))) ∨ (dstP m n z = #[.int .u8 (z 0), .bool true] ∧ m = 11 ∧ mbP m = (n : Int)) ∨ (dstP m n z = #[.int .u8 (z 1), .bool true] ∧ m = 12 ∧ mbP m = (n : Int)) := by
  unfold dstP
  by_cases h1 : (n : Int) = mbP m ∧ m = 11
  · rw [if_pos h1]; exact .inr (.inl ⟨rfl, h1.2, h1.1.symm⟩)
  · rw [if_neg h1]
    by_cases h2 : (n : Int) = mbP m ∧ m = 12
    · rw [if_pos h2]; exact .inr (.inr ⟨rfl, h2.2, h2.1.symm⟩)
    · rw [if_neg h2]; exact .inl ⟨rfl, by omega⟩
theorem rtext_any (A : Option Addr) (n c : Nat) (z : Nat → Int) (a : Int) (a0 : 0 ≤ a) (a1 : a ≤ 65535) (hnc : n ≤ c) (hs : n ≤ 1099511627776) (w : World) (R : IRow w .u8 A n z) : Calls Tryd.prog 19 #[.slice A n c, .int .u16 a] w fun e w' => e = .returned (rtV z n a) ∧ Below w.heap.size w w' := by
  by_cases h0 : n = 0
  · subst h0; exact rtext_0 A c z a w
  · obtain ⟨ad, rfl⟩ := R.ptr (by omega)
    cases h : whB z n with
    | false => exact rtext_no ad n c z a (by omega) hs h w R
    | true => exact rtext_yes ad n c z a a0 a1 (by omega) hnc hs h w R
theorem cat_cut1 (X D T : ByteArray) (h : X.size = 4) : (X ++ D ++ T).extract 0 4 = X := by
  have h' : X.data.toList.length = 4 := h
  apply Go.WideShapes.bytes_inj
  simp [List.take_append, h, List.take_of_length_le (Nat.le_of_eq h')]
theorem cat_cut2 (X D T : ByteArray) (h : X.size = 4) (hd : D.size = 2) : (X ++ D ++ T).extract 6 (6 + T.size) = T := by
  have h' : X.data.toList.length = 4 := h
  have hd' : D.data.toList.length = 2 := hd
  have ht : T.data.toList.length = T.size := rfl
  have e1 : List.drop 6 X.data.toList = [] := List.drop_eq_nil_of_le (by omega)
  have e2 : List.drop 2 D.data.toList = [] := List.drop_eq_nil_of_le (by omega)
  have e3 : List.take T.size T.data.toList = T.data.toList := List.take_of_length_le (Nat.le_of_eq ht)
  apply Go.WideShapes.bytes_inj
  simp [List.drop_append, List.take_append, h, hd, e1, e2]
  rw [show 6 + T.size - 4 - 2 = T.size by omega]
  exact e3
theorem lposN_le (z : Nat → Int) (n : Nat) (m : Nat) (hall : ∀ i, i < m → lposN z n i < n) (hend : lposN z n m = n) : m ≤ n := hend ▸ lposN_ge z n m hall
theorem lposN_lt (z : Nat → Int) (n : Nat) (m : Nat) (hend : lposN z n m = n) (j : Nat) (hj : j ≤ m) (h : lposN z n j < n) : j < m := by
  rcases Nat.lt_or_ge j m with h1 | h1
  · exact h1
  · obtain rfl : j = m := by omega
    omega
end Go.Proofs.YtdhnnegigjjoeaaDoor
namespace Go.Proofs.YtdhnnegigjjoeaaDoor
open Go.ChangeShapes Go.WideShapes Go.ChangeAt Go.RowKit
set_option linter.unusedVariables false
set_option linter.unusedSimpArgs false
set_option maxRecDepth 100000 in
set_option maxHeartbeats 8000000 in
theorem mrc_law1 {W : World} (bh : Int) (wb : (Lit.int .u16 bh).wf = true) (to : Int) (wt : (Lit.int .u16 to).wf = true) (d : Int) (wd : (Lit.int .u8 d).wf = true) (m : Int) (wm : (Lit.int .u8 m).wf = true) (A : Option Addr) (n c : Nat) (z : Nat → Int) (gc : n ≤ c) (mc : c ≤ maxLen) (R : IRow W .u8 A n z) (hin : -128 ≤ reachO bh to ∧ reachO bh to ≤ 127) :
    Calls Tryd.prog 4 #[.int .u16 bh, .int .u16 to, .int .u8 d, .int .u8 m, .slice A n c] W fun e w' => e = .returned (.bool true) ∧ Below W.heap.size W w' := by
  obtain ⟨b0, b1⟩ := bounds_u16 wb
  obtain ⟨t0, t1⟩ := bounds_u16 wt
  obtain ⟨d0, d1⟩ := bounds_u8 wd
  obtain ⟨m0, m1⟩ := bounds_u8 wm
  obtain ⟨mm, rfl⟩ : ∃ mm : Nat, m = mm := ⟨m.toNat, by omega⟩
  have hm : mm < 256 := by omega
  have hT1 := fun W => mtarget_any bh d b0 b1 d0 d1 W
  have hT2 := fun W => rtarget_any bh d b0 b1 d0 d1 W
  obtain ⟨v0, v1⟩ := tgtP_bd bh d
  have hQ := fun W => mreach_any bh (tgtP bh d) b0 b1 v0 v1 W
  rw [reach_back bh d d0 d1] at hQ
  have hV := fun W => mreach_any bh to b0 b1 t0 t1 W
  have hD := fun W Q => mdist_any mm A n c z gc W Q
  have hRB := fun W => rmbehind_any mm hm W
  obtain ⟨g, hg⟩ : ∃ g, tgtP bh d = g := ⟨_, rfl⟩
  rw [hg] at hT1 hT2 hQ v0 v1
  have hns : (n : Int) ≤ 9223372036854775807 := by unfold maxLen at mc; omega
  have HR := Lib.hid R
  have k1 : (g == g) = true := beq_self_eq_true _
  have k2 : (d == d) = true := beq_self_eq_true _
  have o0 : wrap64 (to - bh) = to - bh := IntWalk.wrap64_in _ (by omega)
  clear R mc wb wt wd wm hg
  obtain ⟨o, ho⟩ : ∃ o, reachO bh to = o := ⟨_, rfl⟩
  rw [ho] at hin
  · rw [reach_in bh to b0 b1 t0 t1 (ho ▸ hin.1) (ho ▸ hin.2), ho] at hV
    unfold reachO at ho
    have hSg := fun W => rsigned_any (o % 256) W (by omega) (by omega)
    have k3 : (if 127 < o % 256 then o % 256 - 256 else o % 256) = o := by split <;> omega
    rw [k3] at hSg
    obtain ⟨oo, hoo⟩ : ∃ oo, o % 256 = oo := ⟨_, rfl⟩
    rw [hoo] at hV hSg
    clear k3 hoo
    have HT1 : ¬ (o < -128 ∨ 127 < o) := by omega
    have hA1 : ¬ o < -128 := by omega
    have hA2 : ¬ 127 < o := by omega
    by_cases c1 : 32767 < to - bh
    · rw [if_pos c1] at ho
      have o1 : wrap64 (to - bh - 65536) = o := (IntWalk.wrap64_in _ (by omega)).trans ho
      have c2 : ¬ o < -32768 := by omega
      rcases dstP_cases mm n z with ⟨hd, hs⟩ | ⟨hd, rfl, hn1⟩ | ⟨hd, rfl, hn2⟩
      · rw [hd] at hD
        clear hd
        generalize mbP mm = q at hRB hs
        by_cases hnq : (n : Int) = q
        · have h11 : (mm : Int) ≠ 11 := by omega
          have h12 : (mm : Int) ≠ 12 := by omega
          have e11 : ((mm : Int) == 11) = false := by simp; omega
          have e12 : ((mm : Int) == 12) = false := by simp; omega
          have enq : ((n : Int) == q) = true := by rw [hnq]; exact beq_self_eq_true _
          clear hs
          go_enter Tryd.func4, Tryd.ntmps4
          go_wp2_with fail
          refine (live24).mono ?_
          rintro e w0 ⟨rfl, b0⟩
          have HB0 := Lib.hid b0
          clear b0
          go_wp2_with (first
            | (go_at_call 14; refine (hT1 _).mono ?_; rintro e w' ⟨rfl, rfl⟩)
            | (go_at_call_of 15 (Value.int .u16 g); refine (hQ _).mono ?_; rintro e w' ⟨rfl, rfl⟩)
            | (go_at_call_of 15 (Value.int .u16 to); refine (hV _).mono ?_; rintro e w' ⟨rfl, rfl⟩)
            | (go_at_call 16; refine (hSg _).mono ?_; rintro e w' ⟨rfl, rfl⟩)
            | (go_at_call 17; refine (hD _ (HR.out.keep HB0.out)).mono ?_; rintro e w' ⟨rfl, rfl⟩))
          refine (hRB _).mono ?_
          rintro e w1 ⟨rfl, b⟩
          have HB1 := Lib.hid (HB0.out.trans (b.mono HB0.out.size))
          skip
          clear b
          go_wp2_with (go_at_call 18; refine (hT2 _).mono ?_; rintro e w' ⟨rfl, rfl⟩)
          go_ret
          exact ⟨rfl, HB1.out⟩
        · clear hs
          have enq : ((n : Int) == q) = false := by simp [hnq]
          go_enter Tryd.func4, Tryd.ntmps4
          go_wp2_with fail
          refine (live24).mono ?_
          rintro e w0 ⟨rfl, b0⟩
          have HB0 := Lib.hid b0
          clear b0
          go_wp2_with (first
            | (go_at_call 14; refine (hT1 _).mono ?_; rintro e w' ⟨rfl, rfl⟩)
            | (go_at_call_of 15 (Value.int .u16 g); refine (hQ _).mono ?_; rintro e w' ⟨rfl, rfl⟩)
            | (go_at_call_of 15 (Value.int .u16 to); refine (hV _).mono ?_; rintro e w' ⟨rfl, rfl⟩)
            | (go_at_call 16; refine (hSg _).mono ?_; rintro e w' ⟨rfl, rfl⟩)
            | (go_at_call 17; refine (hD _ (HR.out.keep HB0.out)).mono ?_; rintro e w' ⟨rfl, rfl⟩))
          refine (hRB _).mono ?_
          rintro e w1 ⟨rfl, b⟩
          have HB1 := Lib.hid (HB0.out.trans (b.mono HB0.out.size))
          skip
          clear b
          go_wp2_with (go_at_call 18; refine (hT2 _).mono ?_; rintro e w' ⟨rfl, rfl⟩)
          go_ret
          exact ⟨rfl, HB1.out⟩
      · rw [hd] at hD
        clear hd
        rw [hn1] at hRB
        have HNV := Lib.hid (show n = 1 by have := (show mbP 11 = 1 by decide); omega)
        obtain ⟨ad, rfl⟩ := HR.out.ptr (by have := HNV.out; omega)
        have k8 : ((n : Int) == n) = true := beq_self_eq_true _
        have k7 : (0 : Int) < n := by have := HNV.out; omega
        clear hn1
        have k9 : (z 0 == z 0) = true := beq_self_eq_true _
        go_enter Tryd.func4, Tryd.ntmps4
        go_wp2_with fail
        refine (live24).mono ?_
        rintro e w0 ⟨rfl, b0⟩
        have HB0 := Lib.hid b0
        clear b0
        go_wp2_with (first
          | (go_at_call 14; refine (hT1 _).mono ?_; rintro e w' ⟨rfl, rfl⟩)
          | (go_at_call_of 15 (Value.int .u16 g); refine (hQ _).mono ?_; rintro e w' ⟨rfl, rfl⟩)
          | (go_at_call_of 15 (Value.int .u16 to); refine (hV _).mono ?_; rintro e w' ⟨rfl, rfl⟩)
          | (go_at_call 16; refine (hSg _).mono ?_; rintro e w' ⟨rfl, rfl⟩)
          | (go_at_call 17; refine (hD _ (HR.out.keep HB0.out)).mono ?_; rintro e w' ⟨rfl, rfl⟩))
        refine (hRB _).mono ?_
        rintro e w1 ⟨rfl, b⟩
        have HB1 := Lib.hid (HB0.out.trans (b.mono HB0.out.size))
        have hc1 : w1.cell? ad = some (.int .u8 (z 0)) := (HR.out.keep HB1.out).cellv 0 (by have := HNV.out; omega)
        clear b
        go_wp2_with (go_at_call 18; refine (hT2 _).mono ?_; rintro e w' ⟨rfl, rfl⟩)
        go_ret
        exact ⟨rfl, HB1.out⟩
      · rw [hd] at hD
        clear hd
        rw [hn2] at hRB
        have HNV := Lib.hid (show n = 2 by have := (show mbP 12 = 2 by decide); omega)
        obtain ⟨ad, rfl⟩ := HR.out.ptr (by have := HNV.out; omega)
        have k8 : ((n : Int) == n) = true := beq_self_eq_true _
        have k7 : (1 : Int) < n := by have := HNV.out; omega
        clear hn2
        have k9 : (z 1 == z 1) = true := beq_self_eq_true _
        go_enter Tryd.func4, Tryd.ntmps4
        go_wp2_with fail
        refine (live24).mono ?_
        rintro e w0 ⟨rfl, b0⟩
        have HB0 := Lib.hid b0
        clear b0
        go_wp2_with (first
          | (go_at_call 14; refine (hT1 _).mono ?_; rintro e w' ⟨rfl, rfl⟩)
          | (go_at_call_of 15 (Value.int .u16 g); refine (hQ _).mono ?_; rintro e w' ⟨rfl, rfl⟩)
          | (go_at_call_of 15 (Value.int .u16 to); refine (hV _).mono ?_; rintro e w' ⟨rfl, rfl⟩)
          | (go_at_call 16; refine (hSg _).mono ?_; rintro e w' ⟨rfl, rfl⟩)
          | (go_at_call 17; refine (hD _ (HR.out.keep HB0.out)).mono ?_; rintro e w' ⟨rfl, rfl⟩))
        refine (hRB _).mono ?_
        rintro e w1 ⟨rfl, b⟩
        have HB1 := Lib.hid (HB0.out.trans (b.mono HB0.out.size))
        have hc1 : w1.cell? ⟨ad.block, ad.off + 1, none⟩ = some (.int .u8 (z 1)) := (HR.out.keep HB1.out).cellv 1 (by have := HNV.out; omega)
        clear b
        go_wp2_with (go_at_call 18; refine (hT2 _).mono ?_; rintro e w' ⟨rfl, rfl⟩)
        go_ret
        exact ⟨rfl, HB1.out⟩
    · rw [if_neg c1] at ho
      by_cases c2 : to - bh < -32768
      · rw [if_pos c2] at ho
        have o1 : wrap64 (to - bh + 65536) = o := (IntWalk.wrap64_in _ (by omega)).trans ho
        rcases dstP_cases mm n z with ⟨hd, hs⟩ | ⟨hd, rfl, hn1⟩ | ⟨hd, rfl, hn2⟩
        · rw [hd] at hD
          clear hd
          generalize mbP mm = q at hRB hs
          by_cases hnq : (n : Int) = q
          · have h11 : (mm : Int) ≠ 11 := by omega
            have h12 : (mm : Int) ≠ 12 := by omega
            have e11 : ((mm : Int) == 11) = false := by simp; omega
            have e12 : ((mm : Int) == 12) = false := by simp; omega
            have enq : ((n : Int) == q) = true := by rw [hnq]; exact beq_self_eq_true _
            clear hs
            go_enter Tryd.func4, Tryd.ntmps4
            go_wp2_with fail
            refine (live24).mono ?_
            rintro e w0 ⟨rfl, b0⟩
            have HB0 := Lib.hid b0
            clear b0
            go_wp2_with (first
              | (go_at_call 14; refine (hT1 _).mono ?_; rintro e w' ⟨rfl, rfl⟩)
              | (go_at_call_of 15 (Value.int .u16 g); refine (hQ _).mono ?_; rintro e w' ⟨rfl, rfl⟩)
              | (go_at_call_of 15 (Value.int .u16 to); refine (hV _).mono ?_; rintro e w' ⟨rfl, rfl⟩)
              | (go_at_call 16; refine (hSg _).mono ?_; rintro e w' ⟨rfl, rfl⟩)
              | (go_at_call 17; refine (hD _ (HR.out.keep HB0.out)).mono ?_; rintro e w' ⟨rfl, rfl⟩))
            refine (hRB _).mono ?_
            rintro e w1 ⟨rfl, b⟩
            have HB1 := Lib.hid (HB0.out.trans (b.mono HB0.out.size))
            skip
            clear b
            go_wp2_with (go_at_call 18; refine (hT2 _).mono ?_; rintro e w' ⟨rfl, rfl⟩)
            go_ret
            exact ⟨rfl, HB1.out⟩
          · clear hs
            have enq : ((n : Int) == q) = false := by simp [hnq]
            go_enter Tryd.func4, Tryd.ntmps4
            go_wp2_with fail
            refine (live24).mono ?_
            rintro e w0 ⟨rfl, b0⟩
            have HB0 := Lib.hid b0
            clear b0
            go_wp2_with (first
              | (go_at_call 14; refine (hT1 _).mono ?_; rintro e w' ⟨rfl, rfl⟩)
              | (go_at_call_of 15 (Value.int .u16 g); refine (hQ _).mono ?_; rintro e w' ⟨rfl, rfl⟩)
              | (go_at_call_of 15 (Value.int .u16 to); refine (hV _).mono ?_; rintro e w' ⟨rfl, rfl⟩)
              | (go_at_call 16; refine (hSg _).mono ?_; rintro e w' ⟨rfl, rfl⟩)
              | (go_at_call 17; refine (hD _ (HR.out.keep HB0.out)).mono ?_; rintro e w' ⟨rfl, rfl⟩))
            refine (hRB _).mono ?_
            rintro e w1 ⟨rfl, b⟩
            have HB1 := Lib.hid (HB0.out.trans (b.mono HB0.out.size))
            skip
            clear b
            go_wp2_with (go_at_call 18; refine (hT2 _).mono ?_; rintro e w' ⟨rfl, rfl⟩)
            go_ret
            exact ⟨rfl, HB1.out⟩
        · rw [hd] at hD
          clear hd
          rw [hn1] at hRB
          have HNV := Lib.hid (show n = 1 by have := (show mbP 11 = 1 by decide); omega)
          obtain ⟨ad, rfl⟩ := HR.out.ptr (by have := HNV.out; omega)
          have k8 : ((n : Int) == n) = true := beq_self_eq_true _
          have k7 : (0 : Int) < n := by have := HNV.out; omega
          clear hn1
          have k9 : (z 0 == z 0) = true := beq_self_eq_true _
          go_enter Tryd.func4, Tryd.ntmps4
          go_wp2_with fail
          refine (live24).mono ?_
          rintro e w0 ⟨rfl, b0⟩
          have HB0 := Lib.hid b0
          clear b0
          go_wp2_with (first
            | (go_at_call 14; refine (hT1 _).mono ?_; rintro e w' ⟨rfl, rfl⟩)
            | (go_at_call_of 15 (Value.int .u16 g); refine (hQ _).mono ?_; rintro e w' ⟨rfl, rfl⟩)
            | (go_at_call_of 15 (Value.int .u16 to); refine (hV _).mono ?_; rintro e w' ⟨rfl, rfl⟩)
            | (go_at_call 16; refine (hSg _).mono ?_; rintro e w' ⟨rfl, rfl⟩)
            | (go_at_call 17; refine (hD _ (HR.out.keep HB0.out)).mono ?_; rintro e w' ⟨rfl, rfl⟩))
          refine (hRB _).mono ?_
          rintro e w1 ⟨rfl, b⟩
          have HB1 := Lib.hid (HB0.out.trans (b.mono HB0.out.size))
          have hc1 : w1.cell? ad = some (.int .u8 (z 0)) := (HR.out.keep HB1.out).cellv 0 (by have := HNV.out; omega)
          clear b
          go_wp2_with (go_at_call 18; refine (hT2 _).mono ?_; rintro e w' ⟨rfl, rfl⟩)
          go_ret
          exact ⟨rfl, HB1.out⟩
        · rw [hd] at hD
          clear hd
          rw [hn2] at hRB
          have HNV := Lib.hid (show n = 2 by have := (show mbP 12 = 2 by decide); omega)
          obtain ⟨ad, rfl⟩ := HR.out.ptr (by have := HNV.out; omega)
          have k8 : ((n : Int) == n) = true := beq_self_eq_true _
          have k7 : (1 : Int) < n := by have := HNV.out; omega
          clear hn2
          have k9 : (z 1 == z 1) = true := beq_self_eq_true _
          go_enter Tryd.func4, Tryd.ntmps4
          go_wp2_with fail
          refine (live24).mono ?_
          rintro e w0 ⟨rfl, b0⟩
          have HB0 := Lib.hid b0
          clear b0
          go_wp2_with (first
            | (go_at_call 14; refine (hT1 _).mono ?_; rintro e w' ⟨rfl, rfl⟩)
            | (go_at_call_of 15 (Value.int .u16 g); refine (hQ _).mono ?_; rintro e w' ⟨rfl, rfl⟩)
            | (go_at_call_of 15 (Value.int .u16 to); refine (hV _).mono ?_; rintro e w' ⟨rfl, rfl⟩)
            | (go_at_call 16; refine (hSg _).mono ?_; rintro e w' ⟨rfl, rfl⟩)
            | (go_at_call 17; refine (hD _ (HR.out.keep HB0.out)).mono ?_; rintro e w' ⟨rfl, rfl⟩))
          refine (hRB _).mono ?_
          rintro e w1 ⟨rfl, b⟩
          have HB1 := Lib.hid (HB0.out.trans (b.mono HB0.out.size))
          have hc1 : w1.cell? ⟨ad.block, ad.off + 1, none⟩ = some (.int .u8 (z 1)) := (HR.out.keep HB1.out).cellv 1 (by have := HNV.out; omega)
          clear b
          go_wp2_with (go_at_call 18; refine (hT2 _).mono ?_; rintro e w' ⟨rfl, rfl⟩)
          go_ret
          exact ⟨rfl, HB1.out⟩
      · rw [if_neg c2] at ho
        rw [ho] at o0 c1 c2
        rcases dstP_cases mm n z with ⟨hd, hs⟩ | ⟨hd, rfl, hn1⟩ | ⟨hd, rfl, hn2⟩
        · rw [hd] at hD
          clear hd
          generalize mbP mm = q at hRB hs
          by_cases hnq : (n : Int) = q
          · have h11 : (mm : Int) ≠ 11 := by omega
            have h12 : (mm : Int) ≠ 12 := by omega
            have e11 : ((mm : Int) == 11) = false := by simp; omega
            have e12 : ((mm : Int) == 12) = false := by simp; omega
            have enq : ((n : Int) == q) = true := by rw [hnq]; exact beq_self_eq_true _
            clear hs
            go_enter Tryd.func4, Tryd.ntmps4
            go_wp2_with fail
            refine (live24).mono ?_
            rintro e w0 ⟨rfl, b0⟩
            have HB0 := Lib.hid b0
            clear b0
            go_wp2_with (first
              | (go_at_call 14; refine (hT1 _).mono ?_; rintro e w' ⟨rfl, rfl⟩)
              | (go_at_call_of 15 (Value.int .u16 g); refine (hQ _).mono ?_; rintro e w' ⟨rfl, rfl⟩)
              | (go_at_call_of 15 (Value.int .u16 to); refine (hV _).mono ?_; rintro e w' ⟨rfl, rfl⟩)
              | (go_at_call 16; refine (hSg _).mono ?_; rintro e w' ⟨rfl, rfl⟩)
              | (go_at_call 17; refine (hD _ (HR.out.keep HB0.out)).mono ?_; rintro e w' ⟨rfl, rfl⟩))
            refine (hRB _).mono ?_
            rintro e w1 ⟨rfl, b⟩
            have HB1 := Lib.hid (HB0.out.trans (b.mono HB0.out.size))
            skip
            clear b
            go_wp2_with (go_at_call 18; refine (hT2 _).mono ?_; rintro e w' ⟨rfl, rfl⟩)
            go_ret
            exact ⟨rfl, HB1.out⟩
          · clear hs
            have enq : ((n : Int) == q) = false := by simp [hnq]
            go_enter Tryd.func4, Tryd.ntmps4
            go_wp2_with fail
            refine (live24).mono ?_
            rintro e w0 ⟨rfl, b0⟩
            have HB0 := Lib.hid b0
            clear b0
            go_wp2_with (first
              | (go_at_call 14; refine (hT1 _).mono ?_; rintro e w' ⟨rfl, rfl⟩)
              | (go_at_call_of 15 (Value.int .u16 g); refine (hQ _).mono ?_; rintro e w' ⟨rfl, rfl⟩)
              | (go_at_call_of 15 (Value.int .u16 to); refine (hV _).mono ?_; rintro e w' ⟨rfl, rfl⟩)
              | (go_at_call 16; refine (hSg _).mono ?_; rintro e w' ⟨rfl, rfl⟩)
              | (go_at_call 17; refine (hD _ (HR.out.keep HB0.out)).mono ?_; rintro e w' ⟨rfl, rfl⟩))
            refine (hRB _).mono ?_
            rintro e w1 ⟨rfl, b⟩
            have HB1 := Lib.hid (HB0.out.trans (b.mono HB0.out.size))
            skip
            clear b
            go_wp2_with (go_at_call 18; refine (hT2 _).mono ?_; rintro e w' ⟨rfl, rfl⟩)
            go_ret
            exact ⟨rfl, HB1.out⟩
        · rw [hd] at hD
          clear hd
          rw [hn1] at hRB
          have HNV := Lib.hid (show n = 1 by have := (show mbP 11 = 1 by decide); omega)
          obtain ⟨ad, rfl⟩ := HR.out.ptr (by have := HNV.out; omega)
          have k8 : ((n : Int) == n) = true := beq_self_eq_true _
          have k7 : (0 : Int) < n := by have := HNV.out; omega
          clear hn1
          have k9 : (z 0 == z 0) = true := beq_self_eq_true _
          go_enter Tryd.func4, Tryd.ntmps4
          go_wp2_with fail
          refine (live24).mono ?_
          rintro e w0 ⟨rfl, b0⟩
          have HB0 := Lib.hid b0
          clear b0
          go_wp2_with (first
            | (go_at_call 14; refine (hT1 _).mono ?_; rintro e w' ⟨rfl, rfl⟩)
            | (go_at_call_of 15 (Value.int .u16 g); refine (hQ _).mono ?_; rintro e w' ⟨rfl, rfl⟩)
            | (go_at_call_of 15 (Value.int .u16 to); refine (hV _).mono ?_; rintro e w' ⟨rfl, rfl⟩)
            | (go_at_call 16; refine (hSg _).mono ?_; rintro e w' ⟨rfl, rfl⟩)
            | (go_at_call 17; refine (hD _ (HR.out.keep HB0.out)).mono ?_; rintro e w' ⟨rfl, rfl⟩))
          refine (hRB _).mono ?_
          rintro e w1 ⟨rfl, b⟩
          have HB1 := Lib.hid (HB0.out.trans (b.mono HB0.out.size))
          have hc1 : w1.cell? ad = some (.int .u8 (z 0)) := (HR.out.keep HB1.out).cellv 0 (by have := HNV.out; omega)
          clear b
          go_wp2_with (go_at_call 18; refine (hT2 _).mono ?_; rintro e w' ⟨rfl, rfl⟩)
          go_ret
          exact ⟨rfl, HB1.out⟩
        · rw [hd] at hD
          clear hd
          rw [hn2] at hRB
          have HNV := Lib.hid (show n = 2 by have := (show mbP 12 = 2 by decide); omega)
          obtain ⟨ad, rfl⟩ := HR.out.ptr (by have := HNV.out; omega)
          have k8 : ((n : Int) == n) = true := beq_self_eq_true _
          have k7 : (1 : Int) < n := by have := HNV.out; omega
          clear hn2
          have k9 : (z 1 == z 1) = true := beq_self_eq_true _
          go_enter Tryd.func4, Tryd.ntmps4
          go_wp2_with fail
          refine (live24).mono ?_
          rintro e w0 ⟨rfl, b0⟩
          have HB0 := Lib.hid b0
          clear b0
          go_wp2_with (first
            | (go_at_call 14; refine (hT1 _).mono ?_; rintro e w' ⟨rfl, rfl⟩)
            | (go_at_call_of 15 (Value.int .u16 g); refine (hQ _).mono ?_; rintro e w' ⟨rfl, rfl⟩)
            | (go_at_call_of 15 (Value.int .u16 to); refine (hV _).mono ?_; rintro e w' ⟨rfl, rfl⟩)
            | (go_at_call 16; refine (hSg _).mono ?_; rintro e w' ⟨rfl, rfl⟩)
            | (go_at_call 17; refine (hD _ (HR.out.keep HB0.out)).mono ?_; rintro e w' ⟨rfl, rfl⟩))
          refine (hRB _).mono ?_
          rintro e w1 ⟨rfl, b⟩
          have HB1 := Lib.hid (HB0.out.trans (b.mono HB0.out.size))
          have hc1 : w1.cell? ⟨ad.block, ad.off + 1, none⟩ = some (.int .u8 (z 1)) := (HR.out.keep HB1.out).cellv 1 (by have := HNV.out; omega)
          clear b
          go_wp2_with (go_at_call 18; refine (hT2 _).mono ?_; rintro e w' ⟨rfl, rfl⟩)
          go_ret
          exact ⟨rfl, HB1.out⟩
end Go.Proofs.YtdhnnegigjjoeaaDoor
namespace Go.Proofs.YtdhnnegigjjoeaaDoor
open Go.ChangeShapes Go.WideShapes Go.ChangeAt Go.RowKit
set_option linter.unusedVariables false
set_option linter.unusedSimpArgs false
set_option maxRecDepth 100000 in
set_option maxHeartbeats 8000000 in
theorem mrc_law2 {W : World} (bh : Int) (wb : (Lit.int .u16 bh).wf = true) (to : Int) (wt : (Lit.int .u16 to).wf = true) (d : Int) (wd : (Lit.int .u8 d).wf = true) (m : Int) (wm : (Lit.int .u8 m).wf = true) (A : Option Addr) (n c : Nat) (z : Nat → Int) (gc : n ≤ c) (mc : c ≤ maxLen) (R : IRow W .u8 A n z) (hin : reachO bh to < -128) :
    Calls Tryd.prog 4 #[.int .u16 bh, .int .u16 to, .int .u8 d, .int .u8 m, .slice A n c] W fun e w' => e = .returned (.bool true) ∧ Below W.heap.size W w' := by
  obtain ⟨b0, b1⟩ := bounds_u16 wb
  obtain ⟨t0, t1⟩ := bounds_u16 wt
  obtain ⟨d0, d1⟩ := bounds_u8 wd
  obtain ⟨m0, m1⟩ := bounds_u8 wm
  obtain ⟨mm, rfl⟩ : ∃ mm : Nat, m = mm := ⟨m.toNat, by omega⟩
  have hm : mm < 256 := by omega
  have hT1 := fun W => mtarget_any bh d b0 b1 d0 d1 W
  have hT2 := fun W => rtarget_any bh d b0 b1 d0 d1 W
  obtain ⟨v0, v1⟩ := tgtP_bd bh d
  have hQ := fun W => mreach_any bh (tgtP bh d) b0 b1 v0 v1 W
  rw [reach_back bh d d0 d1] at hQ
  have hV := fun W => mreach_any bh to b0 b1 t0 t1 W
  have hD := fun W Q => mdist_any mm A n c z gc W Q
  have hRB := fun W => rmbehind_any mm hm W
  obtain ⟨g, hg⟩ : ∃ g, tgtP bh d = g := ⟨_, rfl⟩
  rw [hg] at hT1 hT2 hQ v0 v1
  have hns : (n : Int) ≤ 9223372036854775807 := by unfold maxLen at mc; omega
  have HR := Lib.hid R
  have k1 : (g == g) = true := beq_self_eq_true _
  have k2 : (d == d) = true := beq_self_eq_true _
  have o0 : wrap64 (to - bh) = to - bh := IntWalk.wrap64_in _ (by omega)
  clear R mc wb wt wd wm hg
  obtain ⟨o, ho⟩ : ∃ o, reachO bh to = o := ⟨_, rfl⟩
  rw [ho] at hin
  · rw [reach_out bh to b0 b1 t0 t1 (by rw [ho]; omega)] at hV
    unfold reachO at ho
    have hSg : True := trivial
    by_cases c1 : 32767 < to - bh
    · rw [if_pos c1] at ho
      have o1 : wrap64 (to - bh - 65536) = o := (IntWalk.wrap64_in _ (by omega)).trans ho
      have c2 : ¬ o < -32768 := by omega
      have hA1 : o < -128 := hin
      rcases dstP_cases mm n z with ⟨hd, hs⟩ | ⟨hd, rfl, hn1⟩ | ⟨hd, rfl, hn2⟩
      · rw [hd] at hD
        clear hd
        generalize mbP mm = q at hRB hs
        by_cases hnq : (n : Int) = q
        · have h11 : (mm : Int) ≠ 11 := by omega
          have h12 : (mm : Int) ≠ 12 := by omega
          have e11 : ((mm : Int) == 11) = false := by simp; omega
          have e12 : ((mm : Int) == 12) = false := by simp; omega
          have enq : ((n : Int) == q) = true := by rw [hnq]; exact beq_self_eq_true _
          clear hs
          go_enter Tryd.func4, Tryd.ntmps4
          go_wp2_with fail
          refine (live24).mono ?_
          rintro e w0 ⟨rfl, b0⟩
          have HB0 := Lib.hid b0
          clear b0
          go_wp2_with (first
            | (go_at_call 14; refine (hT1 _).mono ?_; rintro e w' ⟨rfl, rfl⟩)
            | (go_at_call_of 15 (Value.int .u16 g); refine (hQ _).mono ?_; rintro e w' ⟨rfl, rfl⟩)
            | (go_at_call_of 15 (Value.int .u16 to); refine (hV _).mono ?_; rintro e w' ⟨rfl, rfl⟩)
            | (go_at_call 16; refine (hSg _).mono ?_; rintro e w' ⟨rfl, rfl⟩)
            | (go_at_call 17; refine (hD _ (HR.out.keep HB0.out)).mono ?_; rintro e w' ⟨rfl, rfl⟩))
          refine (hRB _).mono ?_
          rintro e w1 ⟨rfl, b⟩
          have HB1 := Lib.hid (HB0.out.trans (b.mono HB0.out.size))
          skip
          clear b
          go_wp2_with (go_at_call 18; refine (hT2 _).mono ?_; rintro e w' ⟨rfl, rfl⟩)
          go_ret
          exact ⟨rfl, HB1.out⟩
        · clear hs
          have enq : ((n : Int) == q) = false := by simp [hnq]
          go_enter Tryd.func4, Tryd.ntmps4
          go_wp2_with fail
          refine (live24).mono ?_
          rintro e w0 ⟨rfl, b0⟩
          have HB0 := Lib.hid b0
          clear b0
          go_wp2_with (first
            | (go_at_call 14; refine (hT1 _).mono ?_; rintro e w' ⟨rfl, rfl⟩)
            | (go_at_call_of 15 (Value.int .u16 g); refine (hQ _).mono ?_; rintro e w' ⟨rfl, rfl⟩)
            | (go_at_call_of 15 (Value.int .u16 to); refine (hV _).mono ?_; rintro e w' ⟨rfl, rfl⟩)
            | (go_at_call 16; refine (hSg _).mono ?_; rintro e w' ⟨rfl, rfl⟩)
            | (go_at_call 17; refine (hD _ (HR.out.keep HB0.out)).mono ?_; rintro e w' ⟨rfl, rfl⟩))
          refine (hRB _).mono ?_
          rintro e w1 ⟨rfl, b⟩
          have HB1 := Lib.hid (HB0.out.trans (b.mono HB0.out.size))
          skip
          clear b
          go_wp2_with (go_at_call 18; refine (hT2 _).mono ?_; rintro e w' ⟨rfl, rfl⟩)
          go_ret
          exact ⟨rfl, HB1.out⟩
      · rw [hd] at hD
        clear hd
        rw [hn1] at hRB
        have HNV := Lib.hid (show n = 1 by have := (show mbP 11 = 1 by decide); omega)
        obtain ⟨ad, rfl⟩ := HR.out.ptr (by have := HNV.out; omega)
        have k8 : ((n : Int) == n) = true := beq_self_eq_true _
        have k7 : (0 : Int) < n := by have := HNV.out; omega
        clear hn1
        have k9 : (z 0 == z 0) = true := beq_self_eq_true _
        go_enter Tryd.func4, Tryd.ntmps4
        go_wp2_with fail
        refine (live24).mono ?_
        rintro e w0 ⟨rfl, b0⟩
        have HB0 := Lib.hid b0
        clear b0
        go_wp2_with (first
          | (go_at_call 14; refine (hT1 _).mono ?_; rintro e w' ⟨rfl, rfl⟩)
          | (go_at_call_of 15 (Value.int .u16 g); refine (hQ _).mono ?_; rintro e w' ⟨rfl, rfl⟩)
          | (go_at_call_of 15 (Value.int .u16 to); refine (hV _).mono ?_; rintro e w' ⟨rfl, rfl⟩)
          | (go_at_call 16; refine (hSg _).mono ?_; rintro e w' ⟨rfl, rfl⟩)
          | (go_at_call 17; refine (hD _ (HR.out.keep HB0.out)).mono ?_; rintro e w' ⟨rfl, rfl⟩))
        refine (hRB _).mono ?_
        rintro e w1 ⟨rfl, b⟩
        have HB1 := Lib.hid (HB0.out.trans (b.mono HB0.out.size))
        have hc1 : w1.cell? ad = some (.int .u8 (z 0)) := (HR.out.keep HB1.out).cellv 0 (by have := HNV.out; omega)
        clear b
        go_wp2_with (go_at_call 18; refine (hT2 _).mono ?_; rintro e w' ⟨rfl, rfl⟩)
        go_ret
        exact ⟨rfl, HB1.out⟩
      · rw [hd] at hD
        clear hd
        rw [hn2] at hRB
        have HNV := Lib.hid (show n = 2 by have := (show mbP 12 = 2 by decide); omega)
        obtain ⟨ad, rfl⟩ := HR.out.ptr (by have := HNV.out; omega)
        have k8 : ((n : Int) == n) = true := beq_self_eq_true _
        have k7 : (1 : Int) < n := by have := HNV.out; omega
        clear hn2
        have k9 : (z 1 == z 1) = true := beq_self_eq_true _
        go_enter Tryd.func4, Tryd.ntmps4
        go_wp2_with fail
        refine (live24).mono ?_
        rintro e w0 ⟨rfl, b0⟩
        have HB0 := Lib.hid b0
        clear b0
        go_wp2_with (first
          | (go_at_call 14; refine (hT1 _).mono ?_; rintro e w' ⟨rfl, rfl⟩)
          | (go_at_call_of 15 (Value.int .u16 g); refine (hQ _).mono ?_; rintro e w' ⟨rfl, rfl⟩)
          | (go_at_call_of 15 (Value.int .u16 to); refine (hV _).mono ?_; rintro e w' ⟨rfl, rfl⟩)
          | (go_at_call 16; refine (hSg _).mono ?_; rintro e w' ⟨rfl, rfl⟩)
          | (go_at_call 17; refine (hD _ (HR.out.keep HB0.out)).mono ?_; rintro e w' ⟨rfl, rfl⟩))
        refine (hRB _).mono ?_
        rintro e w1 ⟨rfl, b⟩
        have HB1 := Lib.hid (HB0.out.trans (b.mono HB0.out.size))
        have hc1 : w1.cell? ⟨ad.block, ad.off + 1, none⟩ = some (.int .u8 (z 1)) := (HR.out.keep HB1.out).cellv 1 (by have := HNV.out; omega)
        clear b
        go_wp2_with (go_at_call 18; refine (hT2 _).mono ?_; rintro e w' ⟨rfl, rfl⟩)
        go_ret
        exact ⟨rfl, HB1.out⟩
    · rw [if_neg c1] at ho
      by_cases c2 : to - bh < -32768
      · rw [if_pos c2] at ho
        exfalso; omega
      · rw [if_neg c2] at ho
        rw [ho] at o0 c1 c2
        have hA1 : o < -128 := hin
        rcases dstP_cases mm n z with ⟨hd, hs⟩ | ⟨hd, rfl, hn1⟩ | ⟨hd, rfl, hn2⟩
        · rw [hd] at hD
          clear hd
          generalize mbP mm = q at hRB hs
          by_cases hnq : (n : Int) = q
          · have h11 : (mm : Int) ≠ 11 := by omega
            have h12 : (mm : Int) ≠ 12 := by omega
            have e11 : ((mm : Int) == 11) = false := by simp; omega
            have e12 : ((mm : Int) == 12) = false := by simp; omega
            have enq : ((n : Int) == q) = true := by rw [hnq]; exact beq_self_eq_true _
            clear hs
            go_enter Tryd.func4, Tryd.ntmps4
            go_wp2_with fail
            refine (live24).mono ?_
            rintro e w0 ⟨rfl, b0⟩
            have HB0 := Lib.hid b0
            clear b0
            go_wp2_with (first
              | (go_at_call 14; refine (hT1 _).mono ?_; rintro e w' ⟨rfl, rfl⟩)
              | (go_at_call_of 15 (Value.int .u16 g); refine (hQ _).mono ?_; rintro e w' ⟨rfl, rfl⟩)
              | (go_at_call_of 15 (Value.int .u16 to); refine (hV _).mono ?_; rintro e w' ⟨rfl, rfl⟩)
              | (go_at_call 16; refine (hSg _).mono ?_; rintro e w' ⟨rfl, rfl⟩)
              | (go_at_call 17; refine (hD _ (HR.out.keep HB0.out)).mono ?_; rintro e w' ⟨rfl, rfl⟩))
            refine (hRB _).mono ?_
            rintro e w1 ⟨rfl, b⟩
            have HB1 := Lib.hid (HB0.out.trans (b.mono HB0.out.size))
            skip
            clear b
            go_wp2_with (go_at_call 18; refine (hT2 _).mono ?_; rintro e w' ⟨rfl, rfl⟩)
            go_ret
            exact ⟨rfl, HB1.out⟩
          · clear hs
            have enq : ((n : Int) == q) = false := by simp [hnq]
            go_enter Tryd.func4, Tryd.ntmps4
            go_wp2_with fail
            refine (live24).mono ?_
            rintro e w0 ⟨rfl, b0⟩
            have HB0 := Lib.hid b0
            clear b0
            go_wp2_with (first
              | (go_at_call 14; refine (hT1 _).mono ?_; rintro e w' ⟨rfl, rfl⟩)
              | (go_at_call_of 15 (Value.int .u16 g); refine (hQ _).mono ?_; rintro e w' ⟨rfl, rfl⟩)
              | (go_at_call_of 15 (Value.int .u16 to); refine (hV _).mono ?_; rintro e w' ⟨rfl, rfl⟩)
              | (go_at_call 16; refine (hSg _).mono ?_; rintro e w' ⟨rfl, rfl⟩)
              | (go_at_call 17; refine (hD _ (HR.out.keep HB0.out)).mono ?_; rintro e w' ⟨rfl, rfl⟩))
            refine (hRB _).mono ?_
            rintro e w1 ⟨rfl, b⟩
            have HB1 := Lib.hid (HB0.out.trans (b.mono HB0.out.size))
            skip
            clear b
            go_wp2_with (go_at_call 18; refine (hT2 _).mono ?_; rintro e w' ⟨rfl, rfl⟩)
            go_ret
            exact ⟨rfl, HB1.out⟩
        · rw [hd] at hD
          clear hd
          rw [hn1] at hRB
          have HNV := Lib.hid (show n = 1 by have := (show mbP 11 = 1 by decide); omega)
          obtain ⟨ad, rfl⟩ := HR.out.ptr (by have := HNV.out; omega)
          have k8 : ((n : Int) == n) = true := beq_self_eq_true _
          have k7 : (0 : Int) < n := by have := HNV.out; omega
          clear hn1
          have k9 : (z 0 == z 0) = true := beq_self_eq_true _
          go_enter Tryd.func4, Tryd.ntmps4
          go_wp2_with fail
          refine (live24).mono ?_
          rintro e w0 ⟨rfl, b0⟩
          have HB0 := Lib.hid b0
          clear b0
          go_wp2_with (first
            | (go_at_call 14; refine (hT1 _).mono ?_; rintro e w' ⟨rfl, rfl⟩)
            | (go_at_call_of 15 (Value.int .u16 g); refine (hQ _).mono ?_; rintro e w' ⟨rfl, rfl⟩)
            | (go_at_call_of 15 (Value.int .u16 to); refine (hV _).mono ?_; rintro e w' ⟨rfl, rfl⟩)
            | (go_at_call 16; refine (hSg _).mono ?_; rintro e w' ⟨rfl, rfl⟩)
            | (go_at_call 17; refine (hD _ (HR.out.keep HB0.out)).mono ?_; rintro e w' ⟨rfl, rfl⟩))
          refine (hRB _).mono ?_
          rintro e w1 ⟨rfl, b⟩
          have HB1 := Lib.hid (HB0.out.trans (b.mono HB0.out.size))
          have hc1 : w1.cell? ad = some (.int .u8 (z 0)) := (HR.out.keep HB1.out).cellv 0 (by have := HNV.out; omega)
          clear b
          go_wp2_with (go_at_call 18; refine (hT2 _).mono ?_; rintro e w' ⟨rfl, rfl⟩)
          go_ret
          exact ⟨rfl, HB1.out⟩
        · rw [hd] at hD
          clear hd
          rw [hn2] at hRB
          have HNV := Lib.hid (show n = 2 by have := (show mbP 12 = 2 by decide); omega)
          obtain ⟨ad, rfl⟩ := HR.out.ptr (by have := HNV.out; omega)
          have k8 : ((n : Int) == n) = true := beq_self_eq_true _
          have k7 : (1 : Int) < n := by have := HNV.out; omega
          clear hn2
          have k9 : (z 1 == z 1) = true := beq_self_eq_true _
          go_enter Tryd.func4, Tryd.ntmps4
          go_wp2_with fail
          refine (live24).mono ?_
          rintro e w0 ⟨rfl, b0⟩
          have HB0 := Lib.hid b0
          clear b0
          go_wp2_with (first
            | (go_at_call 14; refine (hT1 _).mono ?_; rintro e w' ⟨rfl, rfl⟩)
            | (go_at_call_of 15 (Value.int .u16 g); refine (hQ _).mono ?_; rintro e w' ⟨rfl, rfl⟩)
            | (go_at_call_of 15 (Value.int .u16 to); refine (hV _).mono ?_; rintro e w' ⟨rfl, rfl⟩)
            | (go_at_call 16; refine (hSg _).mono ?_; rintro e w' ⟨rfl, rfl⟩)
            | (go_at_call 17; refine (hD _ (HR.out.keep HB0.out)).mono ?_; rintro e w' ⟨rfl, rfl⟩))
          refine (hRB _).mono ?_
          rintro e w1 ⟨rfl, b⟩
          have HB1 := Lib.hid (HB0.out.trans (b.mono HB0.out.size))
          have hc1 : w1.cell? ⟨ad.block, ad.off + 1, none⟩ = some (.int .u8 (z 1)) := (HR.out.keep HB1.out).cellv 1 (by have := HNV.out; omega)
          clear b
          go_wp2_with (go_at_call 18; refine (hT2 _).mono ?_; rintro e w' ⟨rfl, rfl⟩)
          go_ret
          exact ⟨rfl, HB1.out⟩
end Go.Proofs.YtdhnnegigjjoeaaDoor
namespace Go.Proofs.YtdhnnegigjjoeaaDoor
open Go.ChangeShapes Go.WideShapes Go.ChangeAt Go.RowKit
set_option linter.unusedVariables false
set_option linter.unusedSimpArgs false
set_option maxRecDepth 100000 in
set_option maxHeartbeats 8000000 in
theorem mrc_law3 {W : World} (bh : Int) (wb : (Lit.int .u16 bh).wf = true) (to : Int) (wt : (Lit.int .u16 to).wf = true) (d : Int) (wd : (Lit.int .u8 d).wf = true) (m : Int) (wm : (Lit.int .u8 m).wf = true) (A : Option Addr) (n c : Nat) (z : Nat → Int) (gc : n ≤ c) (mc : c ≤ maxLen) (R : IRow W .u8 A n z) (hin : 127 < reachO bh to) :
    Calls Tryd.prog 4 #[.int .u16 bh, .int .u16 to, .int .u8 d, .int .u8 m, .slice A n c] W fun e w' => e = .returned (.bool true) ∧ Below W.heap.size W w' := by
  obtain ⟨b0, b1⟩ := bounds_u16 wb
  obtain ⟨t0, t1⟩ := bounds_u16 wt
  obtain ⟨d0, d1⟩ := bounds_u8 wd
  obtain ⟨m0, m1⟩ := bounds_u8 wm
  obtain ⟨mm, rfl⟩ : ∃ mm : Nat, m = mm := ⟨m.toNat, by omega⟩
  have hm : mm < 256 := by omega
  have hT1 := fun W => mtarget_any bh d b0 b1 d0 d1 W
  have hT2 := fun W => rtarget_any bh d b0 b1 d0 d1 W
  obtain ⟨v0, v1⟩ := tgtP_bd bh d
  have hQ := fun W => mreach_any bh (tgtP bh d) b0 b1 v0 v1 W
  rw [reach_back bh d d0 d1] at hQ
  have hV := fun W => mreach_any bh to b0 b1 t0 t1 W
  have hD := fun W Q => mdist_any mm A n c z gc W Q
  have hRB := fun W => rmbehind_any mm hm W
  obtain ⟨g, hg⟩ : ∃ g, tgtP bh d = g := ⟨_, rfl⟩
  rw [hg] at hT1 hT2 hQ v0 v1
  have hns : (n : Int) ≤ 9223372036854775807 := by unfold maxLen at mc; omega
  have HR := Lib.hid R
  have k1 : (g == g) = true := beq_self_eq_true _
  have k2 : (d == d) = true := beq_self_eq_true _
  have o0 : wrap64 (to - bh) = to - bh := IntWalk.wrap64_in _ (by omega)
  clear R mc wb wt wd wm hg
  obtain ⟨o, ho⟩ : ∃ o, reachO bh to = o := ⟨_, rfl⟩
  rw [ho] at hin
  · rw [reach_out bh to b0 b1 t0 t1 (by rw [ho]; omega)] at hV
    unfold reachO at ho
    have hSg : True := trivial
    by_cases c1 : 32767 < to - bh
    · rw [if_pos c1] at ho
      exfalso; omega
    · rw [if_neg c1] at ho
      by_cases c2 : to - bh < -32768
      · rw [if_pos c2] at ho
        have o1 : wrap64 (to - bh + 65536) = o := (IntWalk.wrap64_in _ (by omega)).trans ho
        have hA2 : 127 < o := hin
        have hA1 : ¬ o < -128 := by omega
        rcases dstP_cases mm n z with ⟨hd, hs⟩ | ⟨hd, rfl, hn1⟩ | ⟨hd, rfl, hn2⟩
        · rw [hd] at hD
          clear hd
          generalize mbP mm = q at hRB hs
          by_cases hnq : (n : Int) = q
          · have h11 : (mm : Int) ≠ 11 := by omega
            have h12 : (mm : Int) ≠ 12 := by omega
            have e11 : ((mm : Int) == 11) = false := by simp; omega
            have e12 : ((mm : Int) == 12) = false := by simp; omega
            have enq : ((n : Int) == q) = true := by rw [hnq]; exact beq_self_eq_true _
            clear hs
            go_enter Tryd.func4, Tryd.ntmps4
            go_wp2_with fail
            refine (live24).mono ?_
            rintro e w0 ⟨rfl, b0⟩
            have HB0 := Lib.hid b0
            clear b0
            go_wp2_with (first
              | (go_at_call 14; refine (hT1 _).mono ?_; rintro e w' ⟨rfl, rfl⟩)
              | (go_at_call_of 15 (Value.int .u16 g); refine (hQ _).mono ?_; rintro e w' ⟨rfl, rfl⟩)
              | (go_at_call_of 15 (Value.int .u16 to); refine (hV _).mono ?_; rintro e w' ⟨rfl, rfl⟩)
              | (go_at_call 16; refine (hSg _).mono ?_; rintro e w' ⟨rfl, rfl⟩)
              | (go_at_call 17; refine (hD _ (HR.out.keep HB0.out)).mono ?_; rintro e w' ⟨rfl, rfl⟩))
            refine (hRB _).mono ?_
            rintro e w1 ⟨rfl, b⟩
            have HB1 := Lib.hid (HB0.out.trans (b.mono HB0.out.size))
            skip
            clear b
            go_wp2_with (go_at_call 18; refine (hT2 _).mono ?_; rintro e w' ⟨rfl, rfl⟩)
            go_ret
            exact ⟨rfl, HB1.out⟩
          · clear hs
            have enq : ((n : Int) == q) = false := by simp [hnq]
            go_enter Tryd.func4, Tryd.ntmps4
            go_wp2_with fail
            refine (live24).mono ?_
            rintro e w0 ⟨rfl, b0⟩
            have HB0 := Lib.hid b0
            clear b0
            go_wp2_with (first
              | (go_at_call 14; refine (hT1 _).mono ?_; rintro e w' ⟨rfl, rfl⟩)
              | (go_at_call_of 15 (Value.int .u16 g); refine (hQ _).mono ?_; rintro e w' ⟨rfl, rfl⟩)
              | (go_at_call_of 15 (Value.int .u16 to); refine (hV _).mono ?_; rintro e w' ⟨rfl, rfl⟩)
              | (go_at_call 16; refine (hSg _).mono ?_; rintro e w' ⟨rfl, rfl⟩)
              | (go_at_call 17; refine (hD _ (HR.out.keep HB0.out)).mono ?_; rintro e w' ⟨rfl, rfl⟩))
            refine (hRB _).mono ?_
            rintro e w1 ⟨rfl, b⟩
            have HB1 := Lib.hid (HB0.out.trans (b.mono HB0.out.size))
            skip
            clear b
            go_wp2_with (go_at_call 18; refine (hT2 _).mono ?_; rintro e w' ⟨rfl, rfl⟩)
            go_ret
            exact ⟨rfl, HB1.out⟩
        · rw [hd] at hD
          clear hd
          rw [hn1] at hRB
          have HNV := Lib.hid (show n = 1 by have := (show mbP 11 = 1 by decide); omega)
          obtain ⟨ad, rfl⟩ := HR.out.ptr (by have := HNV.out; omega)
          have k8 : ((n : Int) == n) = true := beq_self_eq_true _
          have k7 : (0 : Int) < n := by have := HNV.out; omega
          clear hn1
          have k9 : (z 0 == z 0) = true := beq_self_eq_true _
          go_enter Tryd.func4, Tryd.ntmps4
          go_wp2_with fail
          refine (live24).mono ?_
          rintro e w0 ⟨rfl, b0⟩
          have HB0 := Lib.hid b0
          clear b0
          go_wp2_with (first
            | (go_at_call 14; refine (hT1 _).mono ?_; rintro e w' ⟨rfl, rfl⟩)
            | (go_at_call_of 15 (Value.int .u16 g); refine (hQ _).mono ?_; rintro e w' ⟨rfl, rfl⟩)
            | (go_at_call_of 15 (Value.int .u16 to); refine (hV _).mono ?_; rintro e w' ⟨rfl, rfl⟩)
            | (go_at_call 16; refine (hSg _).mono ?_; rintro e w' ⟨rfl, rfl⟩)
            | (go_at_call 17; refine (hD _ (HR.out.keep HB0.out)).mono ?_; rintro e w' ⟨rfl, rfl⟩))
          refine (hRB _).mono ?_
          rintro e w1 ⟨rfl, b⟩
          have HB1 := Lib.hid (HB0.out.trans (b.mono HB0.out.size))
          have hc1 : w1.cell? ad = some (.int .u8 (z 0)) := (HR.out.keep HB1.out).cellv 0 (by have := HNV.out; omega)
          clear b
          go_wp2_with (go_at_call 18; refine (hT2 _).mono ?_; rintro e w' ⟨rfl, rfl⟩)
          go_ret
          exact ⟨rfl, HB1.out⟩
        · rw [hd] at hD
          clear hd
          rw [hn2] at hRB
          have HNV := Lib.hid (show n = 2 by have := (show mbP 12 = 2 by decide); omega)
          obtain ⟨ad, rfl⟩ := HR.out.ptr (by have := HNV.out; omega)
          have k8 : ((n : Int) == n) = true := beq_self_eq_true _
          have k7 : (1 : Int) < n := by have := HNV.out; omega
          clear hn2
          have k9 : (z 1 == z 1) = true := beq_self_eq_true _
          go_enter Tryd.func4, Tryd.ntmps4
          go_wp2_with fail
          refine (live24).mono ?_
          rintro e w0 ⟨rfl, b0⟩
          have HB0 := Lib.hid b0
          clear b0
          go_wp2_with (first
            | (go_at_call 14; refine (hT1 _).mono ?_; rintro e w' ⟨rfl, rfl⟩)
            | (go_at_call_of 15 (Value.int .u16 g); refine (hQ _).mono ?_; rintro e w' ⟨rfl, rfl⟩)
            | (go_at_call_of 15 (Value.int .u16 to); refine (hV _).mono ?_; rintro e w' ⟨rfl, rfl⟩)
            | (go_at_call 16; refine (hSg _).mono ?_; rintro e w' ⟨rfl, rfl⟩)
            | (go_at_call 17; refine (hD _ (HR.out.keep HB0.out)).mono ?_; rintro e w' ⟨rfl, rfl⟩))
          refine (hRB _).mono ?_
          rintro e w1 ⟨rfl, b⟩
          have HB1 := Lib.hid (HB0.out.trans (b.mono HB0.out.size))
          have hc1 : w1.cell? ⟨ad.block, ad.off + 1, none⟩ = some (.int .u8 (z 1)) := (HR.out.keep HB1.out).cellv 1 (by have := HNV.out; omega)
          clear b
          go_wp2_with (go_at_call 18; refine (hT2 _).mono ?_; rintro e w' ⟨rfl, rfl⟩)
          go_ret
          exact ⟨rfl, HB1.out⟩
      · rw [if_neg c2] at ho
        rw [ho] at o0 c1 c2
        have hA2 : 127 < o := hin
        have hA1 : ¬ o < -128 := by omega
        rcases dstP_cases mm n z with ⟨hd, hs⟩ | ⟨hd, rfl, hn1⟩ | ⟨hd, rfl, hn2⟩
        · rw [hd] at hD
          clear hd
          generalize mbP mm = q at hRB hs
          by_cases hnq : (n : Int) = q
          · have h11 : (mm : Int) ≠ 11 := by omega
            have h12 : (mm : Int) ≠ 12 := by omega
            have e11 : ((mm : Int) == 11) = false := by simp; omega
            have e12 : ((mm : Int) == 12) = false := by simp; omega
            have enq : ((n : Int) == q) = true := by rw [hnq]; exact beq_self_eq_true _
            clear hs
            go_enter Tryd.func4, Tryd.ntmps4
            go_wp2_with fail
            refine (live24).mono ?_
            rintro e w0 ⟨rfl, b0⟩
            have HB0 := Lib.hid b0
            clear b0
            go_wp2_with (first
              | (go_at_call 14; refine (hT1 _).mono ?_; rintro e w' ⟨rfl, rfl⟩)
              | (go_at_call_of 15 (Value.int .u16 g); refine (hQ _).mono ?_; rintro e w' ⟨rfl, rfl⟩)
              | (go_at_call_of 15 (Value.int .u16 to); refine (hV _).mono ?_; rintro e w' ⟨rfl, rfl⟩)
              | (go_at_call 16; refine (hSg _).mono ?_; rintro e w' ⟨rfl, rfl⟩)
              | (go_at_call 17; refine (hD _ (HR.out.keep HB0.out)).mono ?_; rintro e w' ⟨rfl, rfl⟩))
            refine (hRB _).mono ?_
            rintro e w1 ⟨rfl, b⟩
            have HB1 := Lib.hid (HB0.out.trans (b.mono HB0.out.size))
            skip
            clear b
            go_wp2_with (go_at_call 18; refine (hT2 _).mono ?_; rintro e w' ⟨rfl, rfl⟩)
            go_ret
            exact ⟨rfl, HB1.out⟩
          · clear hs
            have enq : ((n : Int) == q) = false := by simp [hnq]
            go_enter Tryd.func4, Tryd.ntmps4
            go_wp2_with fail
            refine (live24).mono ?_
            rintro e w0 ⟨rfl, b0⟩
            have HB0 := Lib.hid b0
            clear b0
            go_wp2_with (first
              | (go_at_call 14; refine (hT1 _).mono ?_; rintro e w' ⟨rfl, rfl⟩)
              | (go_at_call_of 15 (Value.int .u16 g); refine (hQ _).mono ?_; rintro e w' ⟨rfl, rfl⟩)
              | (go_at_call_of 15 (Value.int .u16 to); refine (hV _).mono ?_; rintro e w' ⟨rfl, rfl⟩)
              | (go_at_call 16; refine (hSg _).mono ?_; rintro e w' ⟨rfl, rfl⟩)
              | (go_at_call 17; refine (hD _ (HR.out.keep HB0.out)).mono ?_; rintro e w' ⟨rfl, rfl⟩))
            refine (hRB _).mono ?_
            rintro e w1 ⟨rfl, b⟩
            have HB1 := Lib.hid (HB0.out.trans (b.mono HB0.out.size))
            skip
            clear b
            go_wp2_with (go_at_call 18; refine (hT2 _).mono ?_; rintro e w' ⟨rfl, rfl⟩)
            go_ret
            exact ⟨rfl, HB1.out⟩
        · rw [hd] at hD
          clear hd
          rw [hn1] at hRB
          have HNV := Lib.hid (show n = 1 by have := (show mbP 11 = 1 by decide); omega)
          obtain ⟨ad, rfl⟩ := HR.out.ptr (by have := HNV.out; omega)
          have k8 : ((n : Int) == n) = true := beq_self_eq_true _
          have k7 : (0 : Int) < n := by have := HNV.out; omega
          clear hn1
          have k9 : (z 0 == z 0) = true := beq_self_eq_true _
          go_enter Tryd.func4, Tryd.ntmps4
          go_wp2_with fail
          refine (live24).mono ?_
          rintro e w0 ⟨rfl, b0⟩
          have HB0 := Lib.hid b0
          clear b0
          go_wp2_with (first
            | (go_at_call 14; refine (hT1 _).mono ?_; rintro e w' ⟨rfl, rfl⟩)
            | (go_at_call_of 15 (Value.int .u16 g); refine (hQ _).mono ?_; rintro e w' ⟨rfl, rfl⟩)
            | (go_at_call_of 15 (Value.int .u16 to); refine (hV _).mono ?_; rintro e w' ⟨rfl, rfl⟩)
            | (go_at_call 16; refine (hSg _).mono ?_; rintro e w' ⟨rfl, rfl⟩)
            | (go_at_call 17; refine (hD _ (HR.out.keep HB0.out)).mono ?_; rintro e w' ⟨rfl, rfl⟩))
          refine (hRB _).mono ?_
          rintro e w1 ⟨rfl, b⟩
          have HB1 := Lib.hid (HB0.out.trans (b.mono HB0.out.size))
          have hc1 : w1.cell? ad = some (.int .u8 (z 0)) := (HR.out.keep HB1.out).cellv 0 (by have := HNV.out; omega)
          clear b
          go_wp2_with (go_at_call 18; refine (hT2 _).mono ?_; rintro e w' ⟨rfl, rfl⟩)
          go_ret
          exact ⟨rfl, HB1.out⟩
        · rw [hd] at hD
          clear hd
          rw [hn2] at hRB
          have HNV := Lib.hid (show n = 2 by have := (show mbP 12 = 2 by decide); omega)
          obtain ⟨ad, rfl⟩ := HR.out.ptr (by have := HNV.out; omega)
          have k8 : ((n : Int) == n) = true := beq_self_eq_true _
          have k7 : (1 : Int) < n := by have := HNV.out; omega
          clear hn2
          have k9 : (z 1 == z 1) = true := beq_self_eq_true _
          go_enter Tryd.func4, Tryd.ntmps4
          go_wp2_with fail
          refine (live24).mono ?_
          rintro e w0 ⟨rfl, b0⟩
          have HB0 := Lib.hid b0
          clear b0
          go_wp2_with (first
            | (go_at_call 14; refine (hT1 _).mono ?_; rintro e w' ⟨rfl, rfl⟩)
            | (go_at_call_of 15 (Value.int .u16 g); refine (hQ _).mono ?_; rintro e w' ⟨rfl, rfl⟩)
            | (go_at_call_of 15 (Value.int .u16 to); refine (hV _).mono ?_; rintro e w' ⟨rfl, rfl⟩)
            | (go_at_call 16; refine (hSg _).mono ?_; rintro e w' ⟨rfl, rfl⟩)
            | (go_at_call 17; refine (hD _ (HR.out.keep HB0.out)).mono ?_; rintro e w' ⟨rfl, rfl⟩))
          refine (hRB _).mono ?_
          rintro e w1 ⟨rfl, b⟩
          have HB1 := Lib.hid (HB0.out.trans (b.mono HB0.out.size))
          have hc1 : w1.cell? ⟨ad.block, ad.off + 1, none⟩ = some (.int .u8 (z 1)) := (HR.out.keep HB1.out).cellv 1 (by have := HNV.out; omega)
          clear b
          go_wp2_with (go_at_call 18; refine (hT2 _).mono ?_; rintro e w' ⟨rfl, rfl⟩)
          go_ret
          exact ⟨rfl, HB1.out⟩
end Go.Proofs.YtdhnnegigjjoeaaDoor
