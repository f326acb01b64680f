/-
  Texts of these proofs, one behind the other: Ram3, Ram10, Bus2.
-/
import Derived.Test.YtccimkmlbcgekaaGreatKA29
import Derived.StillTailTactics
import Derived.Lib.Hide
import Derived.RegionTactic
import Derived.BigRegion
import Derived.Test.YtccimkmlbcgekaaGreatKA05
import Derived.Shelf.SlMaps.Clone
import Derived.Test.YtccimkmlbcgekaaGreatKA14
import Derived.Test.YtccimkmlbcgekaaGreatKA28
namespace Go.Proofs.YtccimkmlbcgekaaGreat
open Go.RowKit
set_option linter.unusedVariables false
set_option linter.unusedSimpArgs false
set_option maxRecDepth 100000
theorem owns_kp {w w' : World} {b m : Nat} {D : DataW Value} {L : List Nat} (h : w.ownsMap Tryz.prog 3 RH b m D) (k : Kp L w w') (hb : b ∉ L) : w'.ownsMap Tryz.prog 3 RH b m D := by
  have hl := h.lt
  obtain ⟨es, clock, h1, h2⟩ := h
  exact ⟨es, clock, by rw [k.block b hl hb]; exact h1, h2⟩
theorem RM.kp {w w' : World} {mb : Option Nat} {f : Nat → Int} {L : List Nat} (h : RM w mb f) (k : Kp L w w') (hb : ∀ b, mb = some b → b ∉ L) : RM w' mb f := by
  cases mb with
  | none => exact h
  | some b => obtain ⟨D, ho, hv⟩ := h; exact ⟨D, owns_kp ho k (hb b rfl), hv⟩
theorem RD.kp {w w' : World} {g : Nat} {mb : Option Nat} {f : Nat → Int} {L : List Nat} (h : RD w g mb f) (k : Kp L w w') (hg : g ∉ L) (hb : ∀ b, mb = some b → b ∉ L) : RD w' g mb f :=
  ⟨h.1.kp k hg, h.2.kp k hb⟩
theorem RD.keep {w w' : World} {g : Nat} {mb : Option Nat} {f : Nat → Int} (h : RD w g mb f) (k : Below w.heap.size w w') : RD w' g mb f :=
  h.kp (L := []) (Kp.of_below k) (by simp) (by simp)
theorem RM.congr {w : World} {mb : Option Nat} {f f' : Nat → Int} (h : RM w mb f) (e : ∀ i, i < 8192 → f' i = f i) : RM w mb f' := by
  have eb : ∀ k, k < 128 → bk f' k = bk f k := fun k hk => arr_congr fun i hi => e _ (by omega)
  have en : ∀ k, k < 128 → nz f' k = nz f k := fun k hk => by
    unfold nz
    apply Bool.eq_iff_iff.2
    simp only [List.any_eq_true, List.mem_range]
    constructor
    · rintro ⟨i, hi, h⟩; exact ⟨i, hi, by rw [e _ (by omega)] at h; exact h⟩
    · rintro ⟨i, hi, h⟩; exact ⟨i, hi, by rw [e _ (by omega)]; exact h⟩
  cases mb with
  | none => exact fun i hi => by rw [e i hi]; exact h i hi
  | some b =>
    obtain ⟨D, ho, h1, h2, h3⟩ := h
    exact ⟨D, ho, fun k hk => by rw [eb k hk]; exact h1 k hk, fun k hk => by rw [en k hk]; exact h2 k hk, by rw [cnt_same f f' 128 en]; exact h3⟩
theorem load_blk {W : World} {g : Nat} {z : Nat → Int} (h : Blk W g 193 (arr z)) : (loadVar 193 ⟨g, 0, none⟩).run Tryz.prog W = .ok (.agg (arr z)) W :=
  run_loadVar_row W g _ _ (arr z) (0, 0) _ h Tryz.underlying193 rfl (by rw [arr_size]; exact size88)
def PutR (g : Nat) (mb : Option Nat) (f : Nat → Int) (n : Nat) (z : Nat → Int) (w : World) (e : Ending) (w' : World) : Prop :=
  e = .returned (.tuple #[]) ∧ ∃ mb', RD w' g mb' (fput f n z) ∧ Kp (g :: mb.toList) w w' ∧ (mb' = mb ∨ ∃ b', mb' = some b' ∧ w.heap.size ≤ b')
theorem zB_zero {z : Nat → Int} (h : zB z = true) (i : Nat) (hi : i < 64) : z i = 0 := by
  unfold zB at h
  rw [List.all_eq_true] at h
  simpa using h i (by simpa using hi)
theorem map_nil (W : World) : (binOp .eql 186 (.map none) (.map none)).run Tryz.prog W = .ok (.bool true) W := by kernel_rfl
theorem map_some (b : Nat) (W : World) : (binOp .eql 186 (.map (some b)) (.map none)).run Tryz.prog W = .ok (.bool false) W := by kernel_rfl
set_option maxHeartbeats 2000000 in
theorem put_any {w : World} {g : Nat} {mb : Option Nat} {f : Nat → Int} (h : RD w g mb f) (n : Nat) (hn : n < 128) (z : Nat → Int) :
    Calls Tryz.prog 101 #[.pointer (some ⟨g, 0, none⟩), .int .i64 n, .agg (arr z)] w (PutR g mb f n z w) := by
  have hz := zero88
  have hsz := arr_size
  have HS : Hid ((Tryz.prog.info? 193).map (·.size) = some (arr z).size) := Lib.hid (by rw [arr_size]; exact size88)
  have heq := eq88
  obtain ⟨hg, hm⟩ := h
  have hg1 := hg.alloc (.cells (arr z) 193)
  have c0 : (w.alloc (.cells (arr z) 193)).cell? ⟨g, 0, none⟩ = some (.map mb) := hg1.cell 0
  have hlt := hg.lt
  have kp1 : Kp (g :: mb.toList) w (w.alloc (.cells (arr z) 193)) := (Kp.refl _ _).alloc _
  have hm1 : RM (w.alloc (.cells (arr z) 193)) mb f := hm.kp (L := []) ((Kp.refl _ _).alloc _) (by simp)
  have HG := Lib.hid hg
  have HG1 := Lib.hid hg1
  have HM := Lib.hid hm1
  clear hg hg1 hm hm1
  cases hb : zB z with
  | true =>
    cases mb with
    | none =>
      have hd := fun W ty => Maps.drop_nil (P := Tryz.prog) (w := W) keyed3 Tryz.underlying186 (key3 n hn) ty
      go_enter Tryz.func101, Tryz.ntmps101
      go_wp2_with (refine wpList_load_row rfl 193 (.tmp 5) rfl w.heap.size (by rfl) 193 (arr z) (0, 0) _ (heap_alloc_new w _) Tryz.underlying193 rfl HS.out ?_)
      go_end0
      refine ⟨rfl, none, ⟨HG1.out, fun i hi => ?_⟩, kp1, .inl rfl⟩
      have hf := HM.out
      unfold fput
      split
      · exact zB_zero hb _ (by omega)
      · exact hf i hi
    | some b =>
      obtain ⟨D, ho, hv⟩ := HM.out
      obtain ⟨w1, hr, ho1, ht1⟩ := ho.drop keyed3 Tryz.underlying186 (key3 n hn) 0
      have gb := ht1.grown
      have hgb : g ≠ b := fun e => by
        subst e
        have h1 : (w.alloc (.cells (arr z) 193)).heap[g]? = _ := HG1.out
        obtain ⟨es, clock, h2, _⟩ := ho
        rw [h1] at h2
        cases h2
      have k2 : Kp [b] (w.alloc (.cells (arr z) 193)) w1 := Kp.of_grown gb (fun k e => by cases e; simp)
      have hG2 := Lib.hid (HG1.out.kp k2 (by simpa using hgb))
      have HV := Lib.hid (MV.del ho hv n hn z hb)
      have HO := Lib.hid ho1
      have HK := Lib.hid ((kp1.trans (k2.mono (M := g :: (some b).toList) (by simp)) (by simp)))
      clear ho1 ht1 gb hgb k2 ho hv kp1
      go_enter Tryz.func101, Tryz.ntmps101
      go_wp2_with (refine wpList_load_row rfl 193 (.tmp 5) rfl w.heap.size (by rfl) 193 (arr z) (0, 0) _ (heap_alloc_new w _) Tryz.underlying193 rfl HS.out ?_)
      go_end0
      exact ⟨rfl, some b, ⟨hG2.out, _, HO.out, HV.out⟩, HK.out, .inl rfl⟩
  | false =>
    have hme := map_nil
    cases mb with
    | none =>
      have hmm := @run_makeMap Tryz.prog
      have f0 : w.frozen? ⟨g, 0, none⟩ = false := HG.out.frozen 0
      obtain ⟨X, hX⟩ : ∃ X, (w.setCell ⟨g, 0, none⟩ (.map (some (w.heap.size + 1)))).alloc (.cells (arr z) 193) = X := ⟨_, rfl⟩
      have hXs : X.heap.size = w.heap.size + 1 := by rw [← hX]; simp [World.setCell]
      have hgX : Blk X g 188 #[.map (some (w.heap.size + 1))] := by rw [← hX]; exact (HG.out.set_ 0 _).alloc _
      have hzX : Blk X w.heap.size 193 (arr z) := by rw [← hX]; exact Blk.new_ (by simp [World.setCell])
      have hkX : Kp [g] w X := by rw [← hX]; exact ((Kp.refl _ _).setCell (.inl (by simp)) _).alloc _
      have ho0 := World.ownsMap_made X Tryz.prog 3 RH
      rw [hXs] at ho0
      have hv := MV.zero HM.out
      obtain ⟨w2, hr, ho2, gb⟩ := ho0.drew.update keyed3 Tryz.underlying186 (by unfold maxLen; omega) (key3 n hn) (val := .agg (arr z)) (d := .held (.agg (arr z))) (ps := []) rfl
      have k2 : Kp [w.heap.size + 1] (X.alloc (.map #[] 0)).drew w2 := Kp.of_grown gb (fun k e => by cases e; simp)
      have hG2 := Blk.kp (w := (X.alloc (.map #[] 0)).drew) (by exact hgX.alloc _) k2 (by simp; omega)
      have hZ1 : Blk (X.alloc (.map #[] 0)) w.heap.size 193 (arr z) := hzX.alloc _
      have c1 : (X.alloc (.map #[] 0)).cell? ⟨g, 0, none⟩ = some (.map (some (w.heap.size + 1))) := (hgX.alloc (.map #[] 0)).cell 0
      have hZ2 := Blk.kp (w := (X.alloc (.map #[] 0)).drew) (by exact hZ1) k2 (by simp)
      have g2c : w2.cell? ⟨g, 0, none⟩ = some (.map (some (w.heap.size + 1))) := hG2.cell 0
      have HV0 := MV.put ho0 hv n hn z hb
      have HO := Lib.hid (tight ho2 HV0)
      have HV := Lib.hid HV0
      have HK : Hid (Kp (g :: (none : Option Nat).toList) w w2) := Lib.hid ((hkX.alloc _).drew.trans k2 (by simp))
      have HG2 := Lib.hid hG2
      have HZ1 := Lib.hid hZ1
      have HZ2 := Lib.hid hZ2
      have C1 := Lib.hid c1
      have HR := Lib.hid hr
      clear gb k2 hG2 hZ1 hZ2 HV0 ho2 kp1 hv ho0 hkX hzX hgX hXs c1 hr
      have HX := Lib.hid hX
      clear hX
      go_enter Tryz.func101, Tryz.ntmps101
      go_wp2_with (refine wpList_load_row rfl 193 (.tmp 5) rfl w.heap.size (by rfl) 193 (arr z) (0, 0) _ (heap_alloc_new w _) Tryz.underlying193 rfl HS.out ?_)
      rw [HX.out]
      have hr := HR.out
      refine rg_begin (S := fun w' => w'.cell? ⟨g, 0, none⟩ = some (.map (some (w.heap.size + 1))) ∧ Hid (Blk w' w.heap.size 193 (arr z))) 7 #[false, false, false, false, false, false, false] (by kernel_rfl) (by kernel_rfl) (by kernel_rfl) ?_ (fun hHeld => ?_)
      · exact ⟨C1.out, HZ1.out⟩
      refine rg_take (i := 0) (d := some 23) (l := #[true, false, false, false, false, false, false]) (fuel := 6) (v := ?_) rfl (by kernel_rfl) (by kernel_rfl) (by kernel_rfl) (by kernel_rfl) (by kernel_rfl) (fun _ _ _ h => h) (by kernel_rfl) ?_ (by assumption) ?_
      rotate_left 1
      · (intro wS hSw; (try dsimp only at hSw); go_simp; try with_reducible rfl)
      try simp only [Act.put, List.setIfInBounds_toArray, List.set_cons_zero, List.set_cons_succ]
      refine rg_take (i := 1) (d := some 24) (l := #[true, true, false, false, false, false, false]) (fuel := 5) (v := ?_) rfl (by kernel_rfl) (by kernel_rfl) (by kernel_rfl) (by kernel_rfl) (by kernel_rfl) (fun _ _ _ h => h) (by kernel_rfl) ?_ (by assumption) ?_
      rotate_left 1
      · (intro wS hSw; (try dsimp only at hSw); go_simp; try with_reducible rfl)
      try simp only [Act.put, List.setIfInBounds_toArray, List.set_cons_zero, List.set_cons_succ]
      refine rg_take (i := 2) (d := some 25) (l := #[true, true, true, false, false, false, false]) (fuel := 4) (v := ?_) rfl (by kernel_rfl) (by kernel_rfl) (by kernel_rfl) (by kernel_rfl) (by kernel_rfl) (fun _ _ _ h => h) (by kernel_rfl) ?_ (by assumption) ?_
      rotate_left 1
      · (intro wS hSw; (try dsimp only at hSw); go_simp; try with_reducible rfl)
      try simp only [Act.put, List.setIfInBounds_toArray, List.set_cons_zero, List.set_cons_succ]
      refine rg_take (i := 3) (d := some 26) (l := #[true, true, true, true, false, false, false]) (fuel := 3) (v := ?_) rfl (by kernel_rfl) (by kernel_rfl) (by kernel_rfl) (by kernel_rfl) (by kernel_rfl) (fun _ _ _ h => h) (by kernel_rfl) ?_ (by assumption) ?_
      rotate_left 1
      · (intro wS hSw; (try dsimp only at hSw); go_simp; try with_reducible rfl)
      try simp only [Act.put, List.setIfInBounds_toArray, List.set_cons_zero, List.set_cons_succ]
      refine rg_take (i := 4) (d := some 27) (l := #[true, true, true, true, true, false, false]) (fuel := 2) (v := ?_) rfl (by kernel_rfl) (by kernel_rfl) (by kernel_rfl) (by kernel_rfl) (by kernel_rfl) (fun _ _ _ h => h) (by kernel_rfl) ?_ (by assumption) ?_
      rotate_left 1
      · (intro wS hSw; (try dsimp only at hSw); go_simp; try with_reducible rfl)
      try simp only [Act.put, List.setIfInBounds_toArray, List.set_cons_zero, List.set_cons_succ]
      refine rg_take (i := 5) (d := some 28) (l := #[true, true, true, true, true, true, false]) (fuel := 1) (v := .agg (arr z)) rfl (by kernel_rfl) (by kernel_rfl) (by kernel_rfl) (by kernel_rfl) (by kernel_rfl) (fun _ _ _ h => h) (by kernel_rfl) ?_ (by assumption) ?_
      · (intro wS hSw; (try dsimp only at hSw); exact exec_load_row 193 _ rfl w.heap.size rfl 193 (arr z) (0, 0) _ hSw.2.out Tryz.underlying193 rfl HS.out)
      try simp only [Act.put, List.setIfInBounds_toArray, List.set_cons_zero, List.set_cons_succ]
      refine rg_next (i := 6) (l := #[true, true, true, true, true, true, true]) (fuel := 0) (by kernel_rfl) rfl (by kernel_rfl) (by kernel_rfl) (fun K hK => ?_)
      go_simp
      skip
      first | (refine hK.out _ _ ?_ (fun hHeld => ?_)) | (go_wp2_with fail; refine hK.out _ _ ?_ (fun hHeld => ?_))
      · (try dsimp only); exact ⟨g2c, HZ2.out⟩
      clear hK K
      try simp only [Act.put, List.setIfInBounds_toArray, List.set_cons_zero, List.set_cons_succ]
      refine wpAnyH_done (by kernel_rfl) ?_ _
      go_wp2_with fail
      go_end0
      exact ⟨rfl, some (w.heap.size + 1), ⟨HG2.out, _, HO.out, HV.out⟩, HK.out, .inr ⟨_, rfl, by omega⟩⟩
    | some b =>
      obtain ⟨D, ho, hv⟩ := HM.out
      have hms := map_some b
      have hgb : g ≠ b := fun e => by
        subst e
        have h1 : (w.alloc (.cells (arr z) 193)).heap[g]? = _ := HG1.out
        obtain ⟨es, clock, h2, _⟩ := ho
        rw [h1] at h2
        cases h2
      have hbl := ho.lt
      have hbw : b < w.heap.size := by
        rcases Nat.lt_or_ge b w.heap.size with h | h
        · exact h
        · obtain ⟨es, clock, h2, _⟩ := ho
          have e : b = w.heap.size := by simp at hbl; omega
          rw [e, heap_alloc_new] at h2
          cases h2
      obtain ⟨w2, hr, ho2, gb⟩ := ho.drew.update keyed3 Tryz.underlying186 (by unfold maxLen; omega) (key3 n hn) (val := .agg (arr z)) (d := .held (.agg (arr z))) (ps := []) rfl
      have k2 : Kp [b] (w.alloc (.cells (arr z) 193)).drew w2 := Kp.of_grown gb (fun k e => by cases e; simp)
      have hG2 := Blk.kp (w := (w.alloc (.cells (arr z) 193)).drew) (by exact HG1.out) k2 (by simpa using hgb)
      have hZ1 : Blk (w.alloc (.cells (arr z) 193)) w.heap.size 193 (arr z) := Blk.new _ _ _
      have hZ2 := Blk.kp (w := (w.alloc (.cells (arr z) 193)).drew) (by exact hZ1) k2 (by simp; omega)
      have g2c : w2.cell? ⟨g, 0, none⟩ = some (.map (some b)) := hG2.cell 0
      have HV0 := MV.put ho hv n hn z hb
      have HO := Lib.hid (tight ho2 HV0)
      have HV := Lib.hid HV0
      have HK := Lib.hid (kp1.drew.trans (k2.mono (M := g :: (some b).toList) (by simp)) (by simp))
      have HG2 := Lib.hid hG2
      have HZ1 := Lib.hid hZ1
      have HZ2 := Lib.hid hZ2
      clear gb k2 hG2 hZ1 hZ2 HV0 ho2 kp1 hv hgb hbl
      go_enter Tryz.func101, Tryz.ntmps101
      go_wp2_with (refine wpList_load_row rfl 193 (.tmp 5) rfl w.heap.size (by rfl) 193 (arr z) (0, 0) _ (heap_alloc_new w _) Tryz.underlying193 rfl HS.out ?_)
      refine rg_begin (S := fun w' => w'.cell? ⟨g, 0, none⟩ = some (.map (some b)) ∧ Hid (Blk w' w.heap.size 193 (arr z))) 7 #[false, false, false, false, false, false, false] (by kernel_rfl) (by kernel_rfl) (by kernel_rfl) ?_ (fun hHeld => ?_)
      · exact ⟨c0, HZ1.out⟩
      refine rg_take (i := 0) (d := some 23) (l := #[true, false, false, false, false, false, false]) (fuel := 6) (v := ?_) rfl (by kernel_rfl) (by kernel_rfl) (by kernel_rfl) (by kernel_rfl) (by kernel_rfl) (fun _ _ _ h => h) (by kernel_rfl) ?_ (by assumption) ?_
      rotate_left 1
      · (intro wS hSw; (try dsimp only at hSw); go_simp; try with_reducible rfl)
      try simp only [Act.put, List.setIfInBounds_toArray, List.set_cons_zero, List.set_cons_succ]
      refine rg_take (i := 1) (d := some 24) (l := #[true, true, false, false, false, false, false]) (fuel := 5) (v := ?_) rfl (by kernel_rfl) (by kernel_rfl) (by kernel_rfl) (by kernel_rfl) (by kernel_rfl) (fun _ _ _ h => h) (by kernel_rfl) ?_ (by assumption) ?_
      rotate_left 1
      · (intro wS hSw; (try dsimp only at hSw); go_simp; try with_reducible rfl)
      try simp only [Act.put, List.setIfInBounds_toArray, List.set_cons_zero, List.set_cons_succ]
      refine rg_take (i := 2) (d := some 25) (l := #[true, true, true, false, false, false, false]) (fuel := 4) (v := ?_) rfl (by kernel_rfl) (by kernel_rfl) (by kernel_rfl) (by kernel_rfl) (by kernel_rfl) (fun _ _ _ h => h) (by kernel_rfl) ?_ (by assumption) ?_
      rotate_left 1
      · (intro wS hSw; (try dsimp only at hSw); go_simp; try with_reducible rfl)
      try simp only [Act.put, List.setIfInBounds_toArray, List.set_cons_zero, List.set_cons_succ]
      refine rg_take (i := 3) (d := some 26) (l := #[true, true, true, true, false, false, false]) (fuel := 3) (v := ?_) rfl (by kernel_rfl) (by kernel_rfl) (by kernel_rfl) (by kernel_rfl) (by kernel_rfl) (fun _ _ _ h => h) (by kernel_rfl) ?_ (by assumption) ?_
      rotate_left 1
      · (intro wS hSw; (try dsimp only at hSw); go_simp; try with_reducible rfl)
      try simp only [Act.put, List.setIfInBounds_toArray, List.set_cons_zero, List.set_cons_succ]
      refine rg_take (i := 4) (d := some 27) (l := #[true, true, true, true, true, false, false]) (fuel := 2) (v := ?_) rfl (by kernel_rfl) (by kernel_rfl) (by kernel_rfl) (by kernel_rfl) (by kernel_rfl) (fun _ _ _ h => h) (by kernel_rfl) ?_ (by assumption) ?_
      rotate_left 1
      · (intro wS hSw; (try dsimp only at hSw); go_simp; try with_reducible rfl)
      try simp only [Act.put, List.setIfInBounds_toArray, List.set_cons_zero, List.set_cons_succ]
      refine rg_take (i := 5) (d := some 28) (l := #[true, true, true, true, true, true, false]) (fuel := 1) (v := .agg (arr z)) rfl (by kernel_rfl) (by kernel_rfl) (by kernel_rfl) (by kernel_rfl) (by kernel_rfl) (fun _ _ _ h => h) (by kernel_rfl) ?_ (by assumption) ?_
      · (intro wS hSw; (try dsimp only at hSw); exact exec_load_row 193 _ rfl w.heap.size rfl 193 (arr z) (0, 0) _ hSw.2.out Tryz.underlying193 rfl HS.out)
      try simp only [Act.put, List.setIfInBounds_toArray, List.set_cons_zero, List.set_cons_succ]
      refine rg_next (i := 6) (l := #[true, true, true, true, true, true, true]) (fuel := 0) (by kernel_rfl) rfl (by kernel_rfl) (by kernel_rfl) (fun K hK => ?_)
      go_simp
      skip
      first | (refine hK.out _ _ ?_ (fun hHeld => ?_)) | (go_wp2_with fail; refine hK.out _ _ ?_ (fun hHeld => ?_))
      · (try dsimp only); exact ⟨g2c, HZ2.out⟩
      clear hK K
      try simp only [Act.put, List.setIfInBounds_toArray, List.set_cons_zero, List.set_cons_succ]
      refine wpAnyH_done (by kernel_rfl) ?_ _
      go_wp2_with fail
      go_end0
      exact ⟨rfl, some b, ⟨HG2.out, _, HO.out, HV.out⟩, HK.out, .inl rfl⟩
end Go.Proofs.YtccimkmlbcgekaaGreat
namespace Go.Proofs.YtccimkmlbcgekaaGreat
open Go.RowKit Go.Shelf Go.Proofs
set_option linter.unusedVariables false
set_option linter.unusedSimpArgs false
set_option maxRecDepth 100000
set_option maxHeartbeats 2000000 in
theorem mclone_any (b : Nat) (es : Array MapEntry) (clock : Nat) (w : World) (hb : w.heap[b]? = some (.map es clock)) :
    Calls Tryz.prog 110 #[.map (some b)] w fun e w' => e = .returned (.map (some w.heap.size)) ∧ w' = w.alloc (.map es clock) := by
  have hq := fun w => run_eql_map_nil_sl (P := Tryz.prog) w 186 _ _ (some b) Tryz.underlying186
  go_enter Tryz.func110, Tryz.ntmps110
  go_wp2
  rw [run_callFunc_extern Tryz.func161 (by kernel_rfl) (by kernel_rfl) (by kernel_rfl) (e := Extern.MapsClone.clone) (by kernel_rfl), run_maps_clone_sl w 186 hb]
  simp only [Result.andThen]
  rw [Oper.upon_value]
  go_wp2
  rw [run_typeAssert_map_sl _ 186 20 _ _ _ Tryz.underlying186]
  simp only [Result.andThen]
  rw [Oper.upon_value]
  go_wp2
  go_ret
  exact ⟨rfl, rfl⟩
set_option maxHeartbeats 2000000 in
theorem mclone_nil (w : World) :
    Calls Tryz.prog 110 #[.map none] w fun e w' => e = .returned (.map none) ∧ w' = w := by
  have hq := fun w => run_eql_map_nil_sl (P := Tryz.prog) w 186 _ _ none Tryz.underlying186
  go_enter Tryz.func110, Tryz.ntmps110
  go_wp2
  go_ret
  exact ⟨rfl, rfl⟩
def CloneM (g : Nat) (mb : Option Nat) (f : Nat → Int) (w : World) (e : Ending) (w' : World) : Prop :=
  ∃ g2 mb2, e = .returned (.pointer (some ⟨g2, 0, none⟩)) ∧ w.heap.size ≤ g2 ∧ (∀ b, mb2 = some b → w.heap.size ≤ b) ∧ RD w' g2 mb2 f ∧ RD w' g mb f ∧ Below w.heap.size w w'
set_option maxHeartbeats 2000000 in
theorem rclone_any {w : World} {g : Nat} {mb : Option Nat} {f : Nat → Int} (h : RD w g mb f) :
    Calls Tryz.prog 64 #[.pointer (some ⟨g, 0, none⟩)] w (CloneM g mb f w) := by
  have HH := Lib.hid h
  have c0 : w.cell? ⟨g, 0, none⟩ = some (.map mb) := h.1.cell 0
  cases mb with
  | none =>
    clear h
    go_enter Tryz.func64, Tryz.ntmps64
    go_wp2_with fail
    refine (mclone_nil _).mono ?_
    rintro e w' ⟨rfl, rfl⟩
    go_wp2_with fail
    go_ret
    have kB : Below w'.heap.size w' (w'.alloc (.cells #[.map none] 188)) := (Below.refl _ _).alloc (Nat.le_refl _) _
    exact ⟨w'.heap.size, none, rfl, Nat.le_refl _, (fun b e => by cases e), ⟨Blk.new _ _ _, HH.out.2⟩, HH.out.keep kB, kB⟩
  | some b =>
    obtain ⟨D, ho, hv⟩ := h.2
    have hl := ho.lt
    obtain ⟨es, clock, hb, F, hs, hD⟩ := ho
    have kA : Below w.heap.size w (w.alloc (.map es clock)) := (Below.refl _ _).alloc (Nat.le_refl _) _
    have ho2 : (w.alloc (.map es clock)).ownsMap Tryz.prog 3 RH w.heap.size 128 D := ⟨es, clock, heap_alloc_new w _, F, hs, hD⟩
    have HO2 := Lib.hid ho2
    have HV := Lib.hid hv
    have HKA := Lib.hid kA
    clear h F hs hD ho2 hv kA
    go_enter Tryz.func64, Tryz.ntmps64
    go_wp2_with fail
    refine (mclone_any b es clock _ hb).mono ?_
    rintro e w' ⟨rfl, rfl⟩
    clear hb
    go_wp2_with fail
    go_ret
    have hs : (w.alloc (.map es clock)).heap.size = w.heap.size + 1 := by simp
    have kB : Below (w.alloc (.map es clock)).heap.size (w.alloc (.map es clock)) ((w.alloc (.map es clock)).alloc (.cells #[.map (some w.heap.size)] 188)) := (Below.refl _ _).alloc (Nat.le_refl _) _
    have kC := HKA.out.trans (kB.mono (by omega))
    refine ⟨w.heap.size + 1, some w.heap.size, rfl, by omega, (fun b e => by cases e; exact Nat.le_refl _), ⟨Blk.new_ (by simp), D, ?_, HV.out⟩, HH.out.keep kC, kC⟩
    exact owns_kp HO2.out (L := []) (Kp.of_below kB) (by simp)
end Go.Proofs.YtccimkmlbcgekaaGreat
namespace Go.Proofs.YtccimkmlbcgekaaGreat
open Go.RowKit
set_option linter.unusedVariables false
set_option linter.unusedSimpArgs false
set_option maxRecDepth 100000
/-- Neither bytes nor edges lie in this block. -/
def NB (w : World) (y : Nat) : Prop := ∀ t cs, Blk w y t cs → 5 ≠ t ∧ 179 ≠ t
theorem NB.of {w : World} {y : Nat} {t : TypeId} {cs : Array Value} (h : Blk w y t cs) (h1 : 5 ≠ t) (h2 : 179 ≠ t) : NB w y := fun t' cs' h' => by
  by_cases e : t = t'
  · subst e; exact ⟨h1, h2⟩
  · exact absurd rfl (h.ne_ h' e)
theorem NB.map {w : World} {y : Nat} {es : Array MapEntry} {k : Nat} (h : w.heap[y]? = some (.map es k)) : NB w y := fun t cs h' => by
  have h2 : w.heap[y]? = some (Obj.cells cs t (0, 0)) := h'
  rw [h] at h2; cases h2
theorem Typed.offN {w : World} {A : Option Addr} {e : TypeId} {L : List Nat} (h : Typed w A e) (hL : ∀ y ∈ L, NB w y) (he : e = 5 ∨ e = 179) : ∀ ad, A = some ad → ad.block ∉ L := fun ad x hx => by
  obtain ⟨C, hC⟩ := h ad x
  rcases he with rfl | rfl
  · exact (hL _ hx _ _ hC).1 rfl
  · exact (hL _ hx _ _ hC).2 rfl
theorem SliceB.kpN {w w' : World} {v : Value} {n : Nat} {z : Nat → Int} {L : List Nat} (h : SliceB w v n z) (k : Kp L w w') (hL : ∀ y ∈ L, NB w y) : SliceB w' v n z := by
  obtain ⟨A, cap, e, h1, h2, h3, h4, h5⟩ := h
  exact ⟨A, cap, e, h1, h2, h3.kp k (h4.offN hL (.inl rfl)), h4.kp k (h4.offN hL (.inl rfl)), h5⟩
theorem HP.kpN {w w' : World} {g : Nat} {d : Hd} {b : Hb} {x : Hp} {L : List Nat} (h : HP w g d b x) (k : Kp L w w') (hL : ∀ y ∈ L, NB w y) (hn : g ∉ L ∧ b.v ∉ L ∧ b.c ∉ L ∧ b.p ∉ L) : HP w' g d b x := by
  obtain ⟨A, c, hb, ho⟩ := h
  have hbox : ∀ {cb n : Nat} {z : Nat → Int}, Box w cb n z → cb ∉ L → Box w' cb n z := fun hbx h2 => by
    obtain ⟨v, hc, hs⟩ := hbx
    exact ⟨v, hc.kp k h2, hs.kpN k hL⟩
  refine ⟨A, c, hb.kp k hn.1, ?_, hbox ho.v hn.2.1, hbox ho.c hn.2.2.1, hbox ho.p hn.2.2.2, ho.ne, ho.ok, ho.gd⟩
  obtain ⟨h1, h2, h3, h4, h5⟩ := ho.e
  exact ⟨h1, h2, FRow.kp h3 k (h4.offN hL (.inr rfl)), h4.kp k (h4.offN hL (.inr rfl)), h5⟩
theorem HP.nb {w : World} {g : Nat} {d : Hd} {b : Hb} {x : Hp} (h : HP w g d b x) : ∀ y ∈ [g, b.v, b.c, b.p], NB w y := by
  obtain ⟨A, c, hb, ho⟩ := h
  intro y hy
  simp only [List.mem_cons, List.not_mem_nil, or_false] at hy
  rcases hy with rfl | rfl | rfl | rfl
  · exact NB.of hb (by decide) (by decide)
  · obtain ⟨v, h1, _⟩ := ho.v; exact NB.of h1 (by decide) (by decide)
  · obtain ⟨v, h1, _⟩ := ho.c; exact NB.of h1 (by decide) (by decide)
  · obtain ⟨v, h1, _⟩ := ho.p; exact NB.of h1 (by decide) (by decide)
/-- One access that was told. -/
structure Acc where
  st : Int
  ad : Int
  kd : Int
  wr : Bool
  dt : Int
def accC (a : Acc) : List Value := [.int .i64 a.st, .int .u32 a.ad, .int .u8 a.kd, .bool a.wr, .int .u8 a.dt]
def accL (l : List Acc) : List Value := l.flatMap accC
theorem accL_len (l : List Acc) : (accL l).length = l.length * 5 := by
  induction l with
  | nil => rfl
  | cons a l ih => simp only [accL, List.flatMap_cons, List.length_append, List.length_cons] at ih ⊢; rw [ih]; simp [accC]; omega
theorem accL_snoc (l : List Acc) (a : Acc) : accL (l ++ [a]) = accL l ++ accC a := by simp [accL]
/-- Where a bus's things are. -/
structure Bp where
  m : Nat
  mb : Option Nat
  p : Nat
  b : Hb
  tr : Value
/-- How a bus is. -/
structure Bs where
  now : Int
  cyc : Int
  fast : Bool
  asked : Bool
  next : Bool
  rv : Value
  rn : Nat
  rz : Nat → Int
  f : Nat → Int
  x : Hp
  left : Int
  over : Bool
  tl : List Acc
def buR (Q : Bp) (s : Bs) : Nat → Value
  | 5 => s.rv
  | 6 => .pointer (some ⟨Q.m, 0, none⟩)
  | 7 => .pointer (some ⟨Q.p, 0, none⟩)
  | 8 => .int .i64 s.left
  | 9 => .bool s.over
  | _ => Q.tr
def buC (Q : Bp) (s : Bs) : Array Value := buK (buR Q s) s.now s.cyc s.fast s.asked s.next
def Bs.ok (s : Bs) : Prop := 0 ≤ s.now ∧ 0 ≤ s.cyc ∧ 0 ≤ s.left ∧ s.left ≤ 1099511627776 ∧ ∀ i, i < 8192 → 0 ≤ s.f i ∧ s.f i ≤ 255
structure BU (w : World) (g : Nat) (d : Hd) (Q : Bp) (s : Bs) : Prop where
  blk : Blk w g 139 (buC Q s)
  ram : RD w Q.m Q.mb s.f
  pg : HP w Q.p d Q.b s.x
  rom : SliceB w s.rv s.rn s.rz
  tr : w.ownsRow 0 64 5 Q.tr s.tl.length (accL s.tl)
  ok : s.ok
def bL (g : Nat) (Q : Bp) : List Nat := g :: Q.m :: (Q.mb.toList ++ [Q.p, Q.b.v, Q.b.c, Q.b.p] ++ Q.tr.ownBlock.toList)
section
variable {w w' : World} {g : Nat} {d : Hd} {Q : Bp} {s : Bs} {L : List Nat}
theorem RD.map_at {m : Nat} {mb : Option Nat} {f : Nat → Int} (h : RD w m mb f) (b : Nat) (hb : mb = some b) : ∃ es k, w.heap[b]? = some (.map es k) := by
  subst hb
  obtain ⟨_, D, ⟨es, k, hh, _⟩, _⟩ := h
  exact ⟨es, k, hh⟩
theorem tr_blk {v : Value} {n : Nat} {xs : List Value} (h : w.ownsRow 0 64 5 v n xs) (b : Nat) (hb : v.ownBlock = some b) : ∃ cs, Blk w b 64 cs := by
  rcases h.2 with ⟨rfl, _⟩ | ⟨g, cap, cur, rfl, _, hh, _⟩
  · cases hb
  · cases hb; exact ⟨cur, hh⟩
end
end Go.Proofs.YtccimkmlbcgekaaGreat
