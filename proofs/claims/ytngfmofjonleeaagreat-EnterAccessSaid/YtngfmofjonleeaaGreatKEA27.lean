/-
  Texts of these proofs, one behind the other: Ram2, Ram3, Ram4.
-/
import Derived.Test.YtngfmofjonleeaaGreatKEA26
import Derived.Test.YtngfmofjonleeaaGreatKEA10
import Derived.Test.YtngfmofjonleeaaGreatKEA02
import Derived.StillTailTactics
import Derived.Lib.Hide
import Derived.RegionTactic
import Derived.BigRegion
import Derived.Test.YtngfmofjonleeaaGreatKEA03
namespace Go.Proofs.YtngfmofjonleeaaGreat
open Go.RowKit
set_option linter.unusedVariables false
set_option linter.unusedSimpArgs false
set_option maxRecDepth 100000
theorem part_arr (z : Nat → Int) (i : Nat) (h : i < 64) (w : World) : (part 5 (arr z) (i * 1)).run Tryz.prog w = .ok (.int .u8 (z i)) w := by
  have hs : (sizeOf 5).run Tryz.prog w = .ok 1 w := by kernel_rfl
  have hv := arr_at z i h
  simp [part, isAgg, run_underlying Tryz.underlying5, hv]
def zB (z : Nat → Int) : Bool := (List.range 64).all fun i => z i == 0
theorem eq_u8 (d : Nat) (a b : Int) (w : World) : (Op.equalIn (d + 1) 5 (.int .u8 a) (.int .u8 b)).run Tryz.prog w = .ok (a == b) w := by
  simp [Op.equalIn, run_underlying Tryz.underlying5]
theorem eq88 (z : Nat → Int) (w : World) : (binOp .eql 208 (.agg (arr z)) (.agg (arr fun _ => 0))).run Tryz.prog w = .ok (.bool (zB z)) w := by
  rw [run_eql_struct]
  rw [run_equalIn_array w 9999 208 5 64 _ _ (fun i => z i == 0) Tryz.underlying208 (by kernel_rfl) (fun i hi => ⟨_, _, part_arr z i hi w, part_arr _ i hi w, ?_⟩)]
  · rfl
  · exact eq_u8 9998 _ _ w
/-- Memory f with a block made another one. -/
def fput (f : Nat → Int) (n : Nat) (z : Nat → Int) (i : Nat) : Int := if 64 * n ≤ i ∧ i < 64 * n + 64 then z (i - 64 * n) else f i
theorem fput_in (f : Nat → Int) (n : Nat) (z : Nat → Int) (i : Nat) (h : i < 64) : fput f n z (64 * n + i) = z i := by
  unfold fput
  rw [if_pos (by omega)]
  congr 1
  omega
theorem fput_out (f : Nat → Int) (n k : Nat) (z : Nat → Int) (i : Nat) (h : i < 64) (hk : k ≠ n) : fput f n z (64 * k + i) = f (64 * k + i) := by
  unfold fput
  rw [if_neg (by omega)]
theorem bk_in (f : Nat → Int) (n : Nat) (z : Nat → Int) : bk (fput f n z) n = arr z := arr_congr fun i hi => fput_in f n z i hi
theorem bk_out (f : Nat → Int) (n k : Nat) (z : Nat → Int) (hk : k ≠ n) : bk (fput f n z) k = bk f k := arr_congr fun i hi => fput_out f n k z i hi hk
theorem nz_in (f : Nat → Int) (n : Nat) (z : Nat → Int) : nz (fput f n z) n = !zB z := by
  unfold nz zB
  rw [List.not_all_eq_any_not]
  apply Bool.eq_iff_iff.2
  simp only [List.any_eq_true, List.mem_range]
  constructor
  · rintro ⟨i, hi, h⟩; exact ⟨i, hi, by rw [fput_in f n z i hi] at h; simpa using h⟩
  · rintro ⟨i, hi, h⟩; exact ⟨i, hi, by rw [fput_in f n z i hi]; simpa using h⟩
theorem nz_out (f : Nat → Int) (n k : Nat) (z : Nat → Int) (hk : k ≠ n) : nz (fput f n z) k = nz f k := by
  unfold nz
  apply Bool.eq_iff_iff.2
  simp only [List.any_eq_true, List.mem_range]
  constructor
  · rintro ⟨i, hi, h⟩; exact ⟨i, hi, by rw [fput_out f n k z i hi hk] at h; exact h⟩
  · rintro ⟨i, hi, h⟩; exact ⟨i, hi, by rw [fput_out f n k z i hi hk]; exact h⟩
theorem cnt_same (f g : Nat → Int) (m : Nat) (h : ∀ k, k < m → nz g k = nz f k) : cnt g m = cnt f m := by
  induction m with
  | zero => rfl
  | succ m ih => simp only [cnt]; rw [ih fun k hk => h k (by omega), h m (by omega)]
theorem cnt_put (f : Nat → Int) (n : Nat) (z : Nat → Int) (m : Nat) (hn : n < m) : cnt (fput f n z) m + (if nz f n then 1 else 0) = cnt f m + (if zB z then 0 else 1) := by
  induction m with
  | zero => omega
  | succ m ih =>
    simp only [cnt]
    by_cases h : n = m
    · subst h
      rw [cnt_same f (fput f n z) n fun k hk => nz_out f n k z (by omega), nz_in]
      cases zB z <;> simp <;> omega
    · have := ih (by omega)
      rw [nz_out f n m z (by omega)]
      omega
theorem lit_ne {k n : Nat} (h : k ≠ n) : (Lit.int .i64 (k : Int)) ≠ .int .i64 (n : Int) := fun e => by
  injection e with _ e
  omega
theorem keylit (n : Nat) : WideAt.IsKeyLit (.int .i64 (n : Int)) := by first | trivial | exact ⟨⟩ | simp [WideAt.IsKeyLit]
theorem MV.put {w : World} {b m : Nat} {D : DataW Value} {f : Nat → Int} (ho : w.ownsMap Tryz.prog 3 RH b m D) (h : MV D f) (n : Nat) (hn : n < 128) (z : Nat → Int) (hz : zB z = false) : MV (D.put (.int .i64 (n : Int)) (.held (.agg (arr z)))) (fput f n z) := by
  have hi := ho.isMap
  refine ⟨fun k hk => ?_, fun k hk => ?_, ?_⟩
  · by_cases e : k = n
    · subst e; rw [Maps.atKey_put_same hi (keylit k), bk_in]
    · rw [Maps.atKey_put_other (lit_ne e), h.1 k hk, bk_out _ _ _ _ e]
  · by_cases e : k = n
    · subst e; rw [Maps.has_put_same hi (keylit k), nz_in, hz]; rfl
    · rw [Maps.has_put_other (lit_ne e), h.2.1 k hk, nz_out _ _ _ _ e]
  · rw [Maps.size_put (ho.tidy keyed3), h.2.1 n hn, h.2.2]
    have := cnt_put f n z 128 hn
    rw [hz] at this
    cases hq : nz f n <;> simp [hq] at this ⊢ <;> omega
theorem MV.del {w : World} {b m : Nat} {D : DataW Value} {f : Nat → Int} (ho : w.ownsMap Tryz.prog 3 RH b m D) (h : MV D f) (n : Nat) (hn : n < 128) (z : Nat → Int) (hz : zB z = true) : MV (D.del (.int .i64 (n : Int))) (fput f n z) := by
  have hzz : arr z = arr fun _ => 0 := arr_congr fun i hi => by
    unfold zB at hz
    rw [List.all_eq_true] at hz
    simpa using hz i (by simpa using hi)
  refine ⟨fun k hk => ?_, fun k hk => ?_, ?_⟩
  · by_cases e : k = n
    · subst e; rw [Maps.atKey_del_same, bk_in, hzz]
    · rw [Maps.atKey_del_other (lit_ne e), h.1 k hk, bk_out _ _ _ _ e]
  · by_cases e : k = n
    · subst e; rw [Maps.has_del_same, nz_in, hz]; rfl
    · rw [Maps.has_del_other (lit_ne e), h.2.1 k hk, nz_out _ _ _ _ e]
  · have h1 := Maps.size_del (k := .int .i64 (n : Int)) (ho.tidy keyed3)
    have := cnt_put f n z 128 hn
    rw [h.2.1 n hn, h.2.2] at h1
    rw [hz] at this
    cases hq : nz f n <;> simp [hq] at this h1 ⊢ <;> omega
theorem MV.zero {f : Nat → Int} (h : ∀ i, i < 8192 → f i = 0) : MV (.map []) f := by
  have hn : ∀ k, k < 128 → nz f k = false := fun k hk => by
    unfold nz
    rw [List.any_eq_false]
    intro i hi
    rw [h _ (by simp at hi; omega)]
    simp
  refine ⟨fun k hk => ?_, fun k hk => ?_, ?_⟩
  · have e : bk f k = arr fun _ => 0 := arr_congr fun i hi => h _ (by omega)
    rw [e]
    exact Maps.atKey_of_not_has rfl _
  · rw [hn k hk]; rfl
  · have : ∀ m, m ≤ 128 → cnt f m = 0 := fun m => by
      induction m with
      | zero => intro _; rfl
      | succ m ih => intro hm; simp only [cnt]; rw [ih (by omega), hn m (by omega)]; rfl
    rw [this 128 (by omega)]
    rfl
theorem cnt_le (f : Nat → Int) (m : Nat) : cnt f m ≤ m := by
  induction m with
  | zero => exact Nat.le_refl _
  | succ m ih => simp only [cnt]; split <;> omega
/-- As many entries as it has. -/
theorem tight {w : World} {b m : Nat} {D : DataW Value} {f : Nat → Int} (ho : w.ownsMap Tryz.prog 3 RH b m D) (h : MV D f) : w.ownsMap Tryz.prog 3 RH b 128 D := by
  obtain ⟨es, clock, h1, h2, h3, h4⟩ := ho
  refine ⟨es, clock, h1, h2, ?_, h4⟩
  have hl : Maps.size D = es.size := by rw [h4, Maps.size_eq, length_read]
  have := cnt_le f 128
  rw [← hl, h.2.2]
  exact this
end Go.Proofs.YtngfmofjonleeaaGreat
namespace Go.Proofs.YtngfmofjonleeaaGreat
open Go.RowKit
set_option linter.unusedVariables false
set_option linter.unusedSimpArgs false
set_option maxRecDepth 100000
theorem owns_kp {w w' : World} {b m : Nat} {D : DataW Value} {L : List Nat} (h : w.ownsMap Tryz.prog 3 RH b m D) (k : Kp L w w') (hb : b ∉ L) : w'.ownsMap Tryz.prog 3 RH b m D := by
  have hl := h.lt
  obtain ⟨es, clock, h1, h2⟩ := h
  exact ⟨es, clock, by rw [k.block b hl hb]; exact h1, h2⟩
theorem RM.kp {w w' : World} {mb : Option Nat} {f : Nat → Int} {L : List Nat} (h : RM w mb f) (k : Kp L w w') (hb : ∀ b, mb = some b → b ∉ L) : RM w' mb f := by
  cases mb with
  | none => exact h
  | some b => obtain ⟨D, ho, hv⟩ := h; exact ⟨D, owns_kp ho k (hb b rfl), hv⟩
theorem RD.kp {w w' : World} {g : Nat} {mb : Option Nat} {f : Nat → Int} {L : List Nat} (h : RD w g mb f) (k : Kp L w w') (hg : g ∉ L) (hb : ∀ b, mb = some b → b ∉ L) : RD w' g mb f :=
  ⟨h.1.kp k hg, h.2.kp k hb⟩
theorem RD.keep {w w' : World} {g : Nat} {mb : Option Nat} {f : Nat → Int} (h : RD w g mb f) (k : Below w.heap.size w w') : RD w' g mb f :=
  h.kp (L := []) (Kp.of_below k) (by simp) (by simp)
theorem RM.congr {w : World} {mb : Option Nat} {f f' : Nat → Int} (h : RM w mb f) (e : ∀ i, i < 8192 → f' i = f i) : RM w mb f' := by
  have eb : ∀ k, k < 128 → bk f' k = bk f k := fun k hk => arr_congr fun i hi => e _ (by omega)
  have en : ∀ k, k < 128 → nz f' k = nz f k := fun k hk => by
    unfold nz
    apply Bool.eq_iff_iff.2
    simp only [List.any_eq_true, List.mem_range]
    constructor
    · rintro ⟨i, hi, h⟩; exact ⟨i, hi, by rw [e _ (by omega)] at h; exact h⟩
    · rintro ⟨i, hi, h⟩; exact ⟨i, hi, by rw [e _ (by omega)]; exact h⟩
  cases mb with
  | none => exact fun i hi => by rw [e i hi]; exact h i hi
  | some b =>
    obtain ⟨D, ho, h1, h2, h3⟩ := h
    exact ⟨D, ho, fun k hk => by rw [eb k hk]; exact h1 k hk, fun k hk => by rw [en k hk]; exact h2 k hk, by rw [cnt_same f f' 128 en]; exact h3⟩
def PutR (g : Nat) (mb : Option Nat) (f : Nat → Int) (n : Nat) (z : Nat → Int) (w : World) (e : Ending) (w' : World) : Prop :=
  e = .returned (.tuple #[]) ∧ ∃ mb', RD w' g mb' (fput f n z) ∧ Kp (g :: mb.toList) w w' ∧ (mb' = mb ∨ ∃ b', mb' = some b' ∧ w.heap.size ≤ b')
theorem zB_zero {z : Nat → Int} (h : zB z = true) (i : Nat) (hi : i < 64) : z i = 0 := by
  unfold zB at h
  rw [List.all_eq_true] at h
  simpa using h i (by simpa using hi)
theorem map_nil (W : World) : (binOp .eql 157 (.map none) (.map none)).run Tryz.prog W = .ok (.bool true) W := by kernel_rfl
theorem map_some (b : Nat) (W : World) : (binOp .eql 157 (.map (some b)) (.map none)).run Tryz.prog W = .ok (.bool false) W := by kernel_rfl
set_option maxHeartbeats 2000000 in
theorem put_any {w : World} {g : Nat} {mb : Option Nat} {f : Nat → Int} (h : RD w g mb f) (n : Nat) (hn : n < 128) (z : Nat → Int) :
    Calls Tryz.prog 129 #[.pointer (some ⟨g, 0, none⟩), .int .i64 n, .agg (arr z)] w (PutR g mb f n z w) := by
  have hz := zero88
  have hsz := arr_size
  have HS : Hid ((Tryz.prog.info? 208).map (·.size) = some (arr z).size) := Lib.hid (by rw [arr_size]; exact size88)
  have heq := eq88
  obtain ⟨hg, hm⟩ := h
  have hg1 := hg.alloc (.cells (arr z) 208)
  have c0 : (w.alloc (.cells (arr z) 208)).cell? ⟨g, 0, none⟩ = some (.map mb) := hg1.cell 0
  have hlt := hg.lt
  have kp1 : Kp (g :: mb.toList) w (w.alloc (.cells (arr z) 208)) := (Kp.refl _ _).alloc _
  have hm1 : RM (w.alloc (.cells (arr z) 208)) mb f := hm.kp (L := []) ((Kp.refl _ _).alloc _) (by simp)
  have HG := Lib.hid hg
  have HG1 := Lib.hid hg1
  have HM := Lib.hid hm1
  clear hg hg1 hm hm1
  cases hb : zB z with
  | true =>
    cases mb with
    | none =>
      have hd := fun W ty => Maps.drop_nil (P := Tryz.prog) (w := W) keyed3 Tryz.underlying157 (key3 n hn) ty
      go_enter Tryz.func129, Tryz.ntmps129
      go_wp2_with (refine wpList_load_row rfl 208 (.tmp 5) rfl w.heap.size (by rfl) 208 (arr z) (0, 0) _ (heap_alloc_new w _) Tryz.underlying208 rfl HS.out ?_)
      go_end0
      refine ⟨rfl, none, ⟨HG1.out, fun i hi => ?_⟩, kp1, .inl rfl⟩
      have hf := HM.out
      unfold fput
      split
      · exact zB_zero hb _ (by omega)
      · exact hf i hi
    | some b =>
      obtain ⟨D, ho, hv⟩ := HM.out
      obtain ⟨w1, hr, ho1, ht1⟩ := ho.drop keyed3 Tryz.underlying157 (key3 n hn) 0
      have gb := ht1.grown
      have hgb : g ≠ b := fun e => by
        subst e
        have h1 : (w.alloc (.cells (arr z) 208)).heap[g]? = _ := HG1.out
        obtain ⟨es, clock, h2, _⟩ := ho
        rw [h1] at h2
        cases h2
      have k2 : Kp [b] (w.alloc (.cells (arr z) 208)) w1 := Kp.of_grown gb (fun k e => by cases e; simp)
      have hG2 := Lib.hid (HG1.out.kp k2 (by simpa using hgb))
      have HV := Lib.hid (MV.del ho hv n hn z hb)
      have HO := Lib.hid ho1
      have HK := Lib.hid ((kp1.trans (k2.mono (M := g :: (some b).toList) (by simp)) (by simp)))
      clear ho1 ht1 gb hgb k2 ho hv kp1
      go_enter Tryz.func129, Tryz.ntmps129
      go_wp2_with (refine wpList_load_row rfl 208 (.tmp 5) rfl w.heap.size (by rfl) 208 (arr z) (0, 0) _ (heap_alloc_new w _) Tryz.underlying208 rfl HS.out ?_)
      go_end0
      exact ⟨rfl, some b, ⟨hG2.out, _, HO.out, HV.out⟩, HK.out, .inl rfl⟩
  | false =>
    have hme := map_nil
    cases mb with
    | none =>
      have hmm := @run_makeMap Tryz.prog
      have f0 : w.frozen? ⟨g, 0, none⟩ = false := HG.out.frozen 0
      obtain ⟨X, hX⟩ : ∃ X, (w.setCell ⟨g, 0, none⟩ (.map (some (w.heap.size + 1)))).alloc (.cells (arr z) 208) = X := ⟨_, rfl⟩
      have hXs : X.heap.size = w.heap.size + 1 := by rw [← hX]; simp [World.setCell]
      have hgX : Blk X g 159 #[.map (some (w.heap.size + 1))] := by rw [← hX]; exact (HG.out.set_ 0 _).alloc _
      have hzX : Blk X w.heap.size 208 (arr z) := by rw [← hX]; exact Blk.new_ (by simp [World.setCell])
      have hkX : Kp [g] w X := by rw [← hX]; exact ((Kp.refl _ _).setCell (.inl (by simp)) _).alloc _
      have ho0 := World.ownsMap_made X Tryz.prog 3 RH
      rw [hXs] at ho0
      have hv := MV.zero HM.out
      obtain ⟨w2, hr, ho2, gb⟩ := ho0.drew.update keyed3 Tryz.underlying157 (by unfold maxLen; omega) (key3 n hn) (val := .agg (arr z)) (d := .held (.agg (arr z))) (ps := []) rfl
      have k2 : Kp [w.heap.size + 1] (X.alloc (.map #[] 0)).drew w2 := Kp.of_grown gb (fun k e => by cases e; simp)
      have hG2 := Blk.kp (w := (X.alloc (.map #[] 0)).drew) (by exact hgX.alloc _) k2 (by simp; omega)
      have hZ1 : Blk (X.alloc (.map #[] 0)) w.heap.size 208 (arr z) := hzX.alloc _
      have c1 : (X.alloc (.map #[] 0)).cell? ⟨g, 0, none⟩ = some (.map (some (w.heap.size + 1))) := (hgX.alloc (.map #[] 0)).cell 0
      have hZ2 := Blk.kp (w := (X.alloc (.map #[] 0)).drew) (by exact hZ1) k2 (by simp)
      have g2c : w2.cell? ⟨g, 0, none⟩ = some (.map (some (w.heap.size + 1))) := hG2.cell 0
      have HV0 := MV.put ho0 hv n hn z hb
      have HO := Lib.hid (tight ho2 HV0)
      have HV := Lib.hid HV0
      have HK : Hid (Kp (g :: (none : Option Nat).toList) w w2) := Lib.hid ((hkX.alloc _).drew.trans k2 (by simp))
      have HG2 := Lib.hid hG2
      have HZ1 := Lib.hid hZ1
      have HZ2 := Lib.hid hZ2
      have C1 := Lib.hid c1
      have HR := Lib.hid hr
      clear gb k2 hG2 hZ1 hZ2 HV0 ho2 kp1 hv ho0 hkX hzX hgX hXs c1 hr
      have HX := Lib.hid hX
      clear hX
      go_enter Tryz.func129, Tryz.ntmps129
      go_wp2_with (refine wpList_load_row rfl 208 (.tmp 5) rfl w.heap.size (by rfl) 208 (arr z) (0, 0) _ (heap_alloc_new w _) Tryz.underlying208 rfl HS.out ?_)
      rw [HX.out]
      have hr := HR.out
      refine rg_begin (S := fun w' => w'.cell? ⟨g, 0, none⟩ = some (.map (some (w.heap.size + 1))) ∧ Hid (Blk w' w.heap.size 208 (arr z))) 7 #[false, false, false, false, false, false, false] (by kernel_rfl) (by kernel_rfl) (by kernel_rfl) ?_ (fun hHeld => ?_)
      · exact ⟨C1.out, HZ1.out⟩
      refine rg_take (i := 0) (d := some 23) (l := #[true, false, false, false, false, false, false]) (fuel := 6) (v := ?_) rfl (by kernel_rfl) (by kernel_rfl) (by kernel_rfl) (by kernel_rfl) (by kernel_rfl) (fun _ _ _ h => h) (by kernel_rfl) ?_ (by assumption) ?_
      rotate_left 1
      · (intro wS hSw; (try dsimp only at hSw); go_simp; try with_reducible rfl)
      try simp only [Act.put, List.setIfInBounds_toArray, List.set_cons_zero, List.set_cons_succ]
      refine rg_take (i := 1) (d := some 24) (l := #[true, true, false, false, false, false, false]) (fuel := 5) (v := ?_) rfl (by kernel_rfl) (by kernel_rfl) (by kernel_rfl) (by kernel_rfl) (by kernel_rfl) (fun _ _ _ h => h) (by kernel_rfl) ?_ (by assumption) ?_
      rotate_left 1
      · (intro wS hSw; (try dsimp only at hSw); go_simp; try with_reducible rfl)
      try simp only [Act.put, List.setIfInBounds_toArray, List.set_cons_zero, List.set_cons_succ]
      refine rg_take (i := 2) (d := some 25) (l := #[true, true, true, false, false, false, false]) (fuel := 4) (v := ?_) rfl (by kernel_rfl) (by kernel_rfl) (by kernel_rfl) (by kernel_rfl) (by kernel_rfl) (fun _ _ _ h => h) (by kernel_rfl) ?_ (by assumption) ?_
      rotate_left 1
      · (intro wS hSw; (try dsimp only at hSw); go_simp; try with_reducible rfl)
      try simp only [Act.put, List.setIfInBounds_toArray, List.set_cons_zero, List.set_cons_succ]
      refine rg_take (i := 3) (d := some 26) (l := #[true, true, true, true, false, false, false]) (fuel := 3) (v := ?_) rfl (by kernel_rfl) (by kernel_rfl) (by kernel_rfl) (by kernel_rfl) (by kernel_rfl) (fun _ _ _ h => h) (by kernel_rfl) ?_ (by assumption) ?_
      rotate_left 1
      · (intro wS hSw; (try dsimp only at hSw); go_simp; try with_reducible rfl)
      try simp only [Act.put, List.setIfInBounds_toArray, List.set_cons_zero, List.set_cons_succ]
      refine rg_take (i := 4) (d := some 27) (l := #[true, true, true, true, true, false, false]) (fuel := 2) (v := ?_) rfl (by kernel_rfl) (by kernel_rfl) (by kernel_rfl) (by kernel_rfl) (by kernel_rfl) (fun _ _ _ h => h) (by kernel_rfl) ?_ (by assumption) ?_
      rotate_left 1
      · (intro wS hSw; (try dsimp only at hSw); go_simp; try with_reducible rfl)
      try simp only [Act.put, List.setIfInBounds_toArray, List.set_cons_zero, List.set_cons_succ]
      refine rg_take (i := 5) (d := some 28) (l := #[true, true, true, true, true, true, false]) (fuel := 1) (v := .agg (arr z)) rfl (by kernel_rfl) (by kernel_rfl) (by kernel_rfl) (by kernel_rfl) (by kernel_rfl) (fun _ _ _ h => h) (by kernel_rfl) ?_ (by assumption) ?_
      · (intro wS hSw; (try dsimp only at hSw); exact exec_load_row 208 _ rfl w.heap.size rfl 208 (arr z) (0, 0) _ hSw.2.out Tryz.underlying208 rfl HS.out)
      try simp only [Act.put, List.setIfInBounds_toArray, List.set_cons_zero, List.set_cons_succ]
      refine rg_next (i := 6) (l := #[true, true, true, true, true, true, true]) (fuel := 0) (by kernel_rfl) rfl (by kernel_rfl) (by kernel_rfl) (fun K hK => ?_)
      go_simp
      skip
      first | (refine hK.out _ _ ?_ (fun hHeld => ?_)) | (go_wp2_with fail; refine hK.out _ _ ?_ (fun hHeld => ?_))
      · (try dsimp only); exact ⟨g2c, HZ2.out⟩
      clear hK K
      try simp only [Act.put, List.setIfInBounds_toArray, List.set_cons_zero, List.set_cons_succ]
      refine wpAnyH_done (by kernel_rfl) ?_ _
      go_wp2_with fail
      go_end0
      exact ⟨rfl, some (w.heap.size + 1), ⟨HG2.out, _, HO.out, HV.out⟩, HK.out, .inr ⟨_, rfl, by omega⟩⟩
    | some b =>
      obtain ⟨D, ho, hv⟩ := HM.out
      have hms := map_some b
      have hgb : g ≠ b := fun e => by
        subst e
        have h1 : (w.alloc (.cells (arr z) 208)).heap[g]? = _ := HG1.out
        obtain ⟨es, clock, h2, _⟩ := ho
        rw [h1] at h2
        cases h2
      have hbl := ho.lt
      have hbw : b < w.heap.size := by
        rcases Nat.lt_or_ge b w.heap.size with h | h
        · exact h
        · obtain ⟨es, clock, h2, _⟩ := ho
          have e : b = w.heap.size := by simp at hbl; omega
          rw [e, heap_alloc_new] at h2
          cases h2
      obtain ⟨w2, hr, ho2, gb⟩ := ho.drew.update keyed3 Tryz.underlying157 (by unfold maxLen; omega) (key3 n hn) (val := .agg (arr z)) (d := .held (.agg (arr z))) (ps := []) rfl
      have k2 : Kp [b] (w.alloc (.cells (arr z) 208)).drew w2 := Kp.of_grown gb (fun k e => by cases e; simp)
      have hG2 := Blk.kp (w := (w.alloc (.cells (arr z) 208)).drew) (by exact HG1.out) k2 (by simpa using hgb)
      have hZ1 : Blk (w.alloc (.cells (arr z) 208)) w.heap.size 208 (arr z) := Blk.new _ _ _
      have hZ2 := Blk.kp (w := (w.alloc (.cells (arr z) 208)).drew) (by exact hZ1) k2 (by simp; omega)
      have g2c : w2.cell? ⟨g, 0, none⟩ = some (.map (some b)) := hG2.cell 0
      have HV0 := MV.put ho hv n hn z hb
      have HO := Lib.hid (tight ho2 HV0)
      have HV := Lib.hid HV0
      have HK := Lib.hid (kp1.drew.trans (k2.mono (M := g :: (some b).toList) (by simp)) (by simp))
      have HG2 := Lib.hid hG2
      have HZ1 := Lib.hid hZ1
      have HZ2 := Lib.hid hZ2
      clear gb k2 hG2 hZ1 hZ2 HV0 ho2 kp1 hv hgb hbl
      go_enter Tryz.func129, Tryz.ntmps129
      go_wp2_with (refine wpList_load_row rfl 208 (.tmp 5) rfl w.heap.size (by rfl) 208 (arr z) (0, 0) _ (heap_alloc_new w _) Tryz.underlying208 rfl HS.out ?_)
      refine rg_begin (S := fun w' => w'.cell? ⟨g, 0, none⟩ = some (.map (some b)) ∧ Hid (Blk w' w.heap.size 208 (arr z))) 7 #[false, false, false, false, false, false, false] (by kernel_rfl) (by kernel_rfl) (by kernel_rfl) ?_ (fun hHeld => ?_)
      · exact ⟨c0, HZ1.out⟩
      refine rg_take (i := 0) (d := some 23) (l := #[true, false, false, false, false, false, false]) (fuel := 6) (v := ?_) rfl (by kernel_rfl) (by kernel_rfl) (by kernel_rfl) (by kernel_rfl) (by kernel_rfl) (fun _ _ _ h => h) (by kernel_rfl) ?_ (by assumption) ?_
      rotate_left 1
      · (intro wS hSw; (try dsimp only at hSw); go_simp; try with_reducible rfl)
      try simp only [Act.put, List.setIfInBounds_toArray, List.set_cons_zero, List.set_cons_succ]
      refine rg_take (i := 1) (d := some 24) (l := #[true, true, false, false, false, false, false]) (fuel := 5) (v := ?_) rfl (by kernel_rfl) (by kernel_rfl) (by kernel_rfl) (by kernel_rfl) (by kernel_rfl) (fun _ _ _ h => h) (by kernel_rfl) ?_ (by assumption) ?_
      rotate_left 1
      · (intro wS hSw; (try dsimp only at hSw); go_simp; try with_reducible rfl)
      try simp only [Act.put, List.setIfInBounds_toArray, List.set_cons_zero, List.set_cons_succ]
      refine rg_take (i := 2) (d := some 25) (l := #[true, true, true, false, false, false, false]) (fuel := 4) (v := ?_) rfl (by kernel_rfl) (by kernel_rfl) (by kernel_rfl) (by kernel_rfl) (by kernel_rfl) (fun _ _ _ h => h) (by kernel_rfl) ?_ (by assumption) ?_
      rotate_left 1
      · (intro wS hSw; (try dsimp only at hSw); go_simp; try with_reducible rfl)
      try simp only [Act.put, List.setIfInBounds_toArray, List.set_cons_zero, List.set_cons_succ]
      refine rg_take (i := 3) (d := some 26) (l := #[true, true, true, true, false, false, false]) (fuel := 3) (v := ?_) rfl (by kernel_rfl) (by kernel_rfl) (by kernel_rfl) (by kernel_rfl) (by kernel_rfl) (fun _ _ _ h => h) (by kernel_rfl) ?_ (by assumption) ?_
      rotate_left 1
      · (intro wS hSw; (try dsimp only at hSw); go_simp; try with_reducible rfl)
      try simp only [Act.put, List.setIfInBounds_toArray, List.set_cons_zero, List.set_cons_succ]
      refine rg_take (i := 4) (d := some 27) (l := #[true, true, true, true, true, false, false]) (fuel := 2) (v := ?_) rfl (by kernel_rfl) (by kernel_rfl) (by kernel_rfl) (by kernel_rfl) (by kernel_rfl) (fun _ _ _ h => h) (by kernel_rfl) ?_ (by assumption) ?_
      rotate_left 1
      · (intro wS hSw; (try dsimp only at hSw); go_simp; try with_reducible rfl)
      try simp only [Act.put, List.setIfInBounds_toArray, List.set_cons_zero, List.set_cons_succ]
      refine rg_take (i := 5) (d := some 28) (l := #[true, true, true, true, true, true, false]) (fuel := 1) (v := .agg (arr z)) rfl (by kernel_rfl) (by kernel_rfl) (by kernel_rfl) (by kernel_rfl) (by kernel_rfl) (fun _ _ _ h => h) (by kernel_rfl) ?_ (by assumption) ?_
      · (intro wS hSw; (try dsimp only at hSw); exact exec_load_row 208 _ rfl w.heap.size rfl 208 (arr z) (0, 0) _ hSw.2.out Tryz.underlying208 rfl HS.out)
      try simp only [Act.put, List.setIfInBounds_toArray, List.set_cons_zero, List.set_cons_succ]
      refine rg_next (i := 6) (l := #[true, true, true, true, true, true, true]) (fuel := 0) (by kernel_rfl) rfl (by kernel_rfl) (by kernel_rfl) (fun K hK => ?_)
      go_simp
      skip
      first | (refine hK.out _ _ ?_ (fun hHeld => ?_)) | (go_wp2_with fail; refine hK.out _ _ ?_ (fun hHeld => ?_))
      · (try dsimp only); exact ⟨g2c, HZ2.out⟩
      clear hK K
      try simp only [Act.put, List.setIfInBounds_toArray, List.set_cons_zero, List.set_cons_succ]
      refine wpAnyH_done (by kernel_rfl) ?_ _
      go_wp2_with fail
      go_end0
      exact ⟨rfl, some b, ⟨HG2.out, _, HO.out, HV.out⟩, HK.out, .inl rfl⟩
end Go.Proofs.YtngfmofjonleeaaGreat
namespace Go.Proofs.YtngfmofjonleeaaGreat
open Go.RowKit
set_option linter.unusedVariables false
set_option linter.unusedSimpArgs false
set_option maxRecDepth 100000
theorem arr_set (z : Nat → Int) (i : Nat) (b : Int) : (arr z).setIfInBounds i (.int .u8 b) = arr (fun j => if j = i then b else z j) := by
  apply Array.ext_getElem?
  intro j
  rw [Array.getElem?_setIfInBounds]
  by_cases hj : j < 64
  · rw [arr_at _ j hj, arr_at _ j hj]
    by_cases h : i = j
    · subst h; rw [if_pos rfl, if_pos rfl, if_pos (by rw [arr_size]; exact hj)]
    · rw [if_neg h, if_neg (by omega)]
  · rw [Array.getElem?_eq_none (by rw [arr_size]; omega), Array.getElem?_eq_none (by rw [arr_size]; omega)]
    split <;> simp [arr_size] <;> omega
theorem Kp.behind {w w1 w2 : World} {L : List Nat} (h : Below w.heap.size w w1) (k : Kp L w1 w2) : Kp L w w2 :=
  ⟨k.os.trans h.os, k.tape.trans h.tape, k.output.trans h.output, Nat.le_trans h.size k.size, fun i hi hn => (k.block i (Nat.lt_of_lt_of_le hi h.size) hn).trans (h.block i hi)⟩
theorem rnew_any (w : World) : Calls Tryz.prog 31 #[] w fun e w' => e = .returned (.pointer (some ⟨w.heap.size, 0, none⟩)) ∧ RD w' w.heap.size none (fun _ => 0) ∧ Below w.heap.size w w' := by
  go_enter Tryz.func31, Tryz.ntmps31
  go_wp2
  go_ret
  exact ⟨rfl, ⟨Blk.new w _ _, fun _ _ => rfl⟩, (Below.refl _ _).alloc (Nat.le_refl _) _⟩
theorem rread_any {w : World} {g : Nat} {mb : Option Nat} {f : Nat → Int} (h : RD w g mb f) (a : Int) (a0 : 0 ≤ a) (a1 : a ≤ 65535) :
    Calls Tryz.prog 137 #[.pointer (some ⟨g, 0, none⟩), .int .u16 a] w fun e w' => e = .returned (.int .u8 (f (a % 8192).toNat)) ∧ Below w.heap.size w w' := by
  obtain ⟨n, hn⟩ := Int.eq_ofNat_of_zero_le (show 0 ≤ a % 8192 / 64 by omega)
  obtain ⟨i, hi⟩ := Int.eq_ofNat_of_zero_le (show 0 ≤ a % 8192 % 64 by omega)
  have hn' : n < 128 := by omega
  have hi' : i < 64 := by omega
  have e : (a % 8192).toNat = 64 * n + i := by omega
  rw [e]
  have HN := Lib.hid hn
  have HI := Lib.hid hi
  have HH := Lib.hid h
  clear hn hi h e
  have hx := fun W => run_index_agg (P := Tryz.prog) (t := 208) Tryz.underlying208 (by kernel_rfl) (cs := bk f n) (k := .i64) (i := (i : Int)) (by omega) (by omega) (arr_at _ i hi') W
  go_enter Tryz.func137, Tryz.ntmps137
  go_wp2_with fail
  refine (place_any a _ a0 a1).mono ?_
  rw [HN.out, HI.out]
  rintro e w' ⟨rfl, rfl⟩
  go_wp2_with fail
  refine (block_any HH.out n hn').mono ?_
  rintro e w1 ⟨rfl, hb⟩
  go_wp2_with fail
  go_ret
  exact ⟨rfl, hb⟩
/-- Memory with a byte written. -/
def fw (f : Nat → Int) (a b : Int) (j : Nat) : Int := if j = (a % 8192).toNat then b else f j
def WriteR (g : Nat) (mb : Option Nat) (f : Nat → Int) (w : World) (e : Ending) (w' : World) : Prop :=
  e = .returned (.tuple #[]) ∧ ∃ mb', RD w' g mb' f ∧ Kp (g :: mb.toList) w w' ∧ (mb' = mb ∨ ∃ b', mb' = some b' ∧ w.heap.size ≤ b')
set_option maxHeartbeats 1000000 in
theorem rwrite_any {w : World} {g : Nat} {mb : Option Nat} {f : Nat → Int} (h : RD w g mb f) (a b : Int) (a0 : 0 ≤ a) (a1 : a ≤ 65535) :
    Calls Tryz.prog 103 #[.pointer (some ⟨g, 0, none⟩), .int .u16 a, .int .u8 b] w (WriteR g mb (fw f a b) w) := by
  obtain ⟨n, hn⟩ := Int.eq_ofNat_of_zero_le (show 0 ≤ a % 8192 / 64 by omega)
  obtain ⟨i, hi⟩ := Int.eq_ofNat_of_zero_le (show 0 ≤ a % 8192 % 64 by omega)
  have hn' : n < 128 := by omega
  have hi' : i < 64 := by omega
  have e : (a % 8192).toNat = 64 * n + i := by omega
  have HE := Lib.hid e
  have HN := Lib.hid hn
  have HI := Lib.hid hi
  have HH := Lib.hid h
  clear hn hi h e
  have hz := zero88
  have hst := store_new
  have hsz := arr_size
  go_enter Tryz.func103, Tryz.ntmps103
  go_wp2_with fail
  refine (place_any a _ a0 a1).mono ?_
  rw [HN.out, HI.out]
  rintro e w' ⟨rfl, rfl⟩
  go_wp2_with fail
  refine (block_any HH.out n hn').mono ?_
  rintro e w1 ⟨rfl, hb⟩
  unfold bk
  have HS : Hid ((Tryz.prog.info? 208).map (·.size) = some ((arr fun j => f (64 * n + j)).setIfInBounds i (.int .u8 b)).size) := Lib.hid (by rw [Array.size_setIfInBounds, arr_size]; exact size88)
  go_wp2_with (refine wpList_load_row rfl 208 (.tmp 8) rfl w1.heap.size (by rfl) 208 ((arr fun j => f (64 * n + j)).setIfInBounds i (.int .u8 b)) (0, 0) _ (heap_alloc_new w1 _) Tryz.underlying208 rfl HS.out ?_)
  rw [arr_set]
  have kb : Below w1.heap.size w1 (w1.alloc (.cells (arr fun j => if j = i then b else f (64 * n + j)) 208)) := (Below.refl _ _).alloc (Nat.le_refl _) _
  have HW := (HH.out.keep hb).keep kb
  have hbs := hb.size
  refine (put_any HW n hn' _).mono ?_
  rintro e w2 ⟨rfl, mb', h1, h2, h3⟩
  have H1 := Lib.hid h1
  clear h1
  go_wp2_with fail
  go_end0
  refine ⟨rfl, mb', ⟨H1.out.1, H1.out.2.congr fun j hj => ?_⟩, Kp.behind hb (Kp.behind kb h2), ?_⟩
  · unfold fw fput
    rw [HE.out]
    by_cases h4 : 64 * n ≤ j ∧ j < 64 * n + 64
    · rw [if_pos h4]
      show _ = if j - 64 * n = i then b else f (64 * n + (j - 64 * n))
      by_cases h5 : j = 64 * n + i
      · rw [if_pos h5, if_pos (by omega)]
      · rw [if_neg h5, if_neg (by omega)]; congr 1; omega
    · rw [if_neg h4, if_neg (by omega)]
  · rcases h3 with h3 | ⟨b', h3, h4⟩
    · exact .inl h3
    · exact .inr ⟨b', h3, by simp at h4; omega⟩
end Go.Proofs.YtngfmofjonleeaaGreat
