/-
  Texts of these proofs, one behind the other: St8, St9, St10.
-/
import Derived.Test.YtnnfnjbfjgjgnaaDoorKST17
import Derived.Test.YtnnfnjbfjgjgnaaDoorKST29
import Derived.Test.YtnnfnjbfjgjgnaaDoorKST30
import Derived.Test.YtnnfnjbfjgjgnaaDoorKST31
import Derived.Test.YtnnfnjbfjgjgnaaDoorKST12
import Derived.Test.YtnnfnjbfjgjgnaaDoorKST27
import Derived.Deep.QuietTactic
import Derived.BigQuiet
namespace Go.Proofs.YtnnfnjbfjgjgnaaDoor
open Go.RowKit
set_option linter.unusedVariables false
set_option linter.unusedSimpArgs false
set_option maxRecDepth 100000
def ahS : Nat → ByteArray | 0 => ⟨#[65, 61]⟩ | 1 => ⟨#[32, 88, 61]⟩ | 2 => ⟨#[32, 89, 61]⟩ | 3 => ⟨#[32, 83, 61]⟩ | 4 => ⟨#[32, 80, 61]⟩ | 5 => ⟨#[32, 80, 67, 61]⟩ | 6 => ⟨#[32, 77, 61]⟩ | 7 => ⟨#[46]⟩ | 8 => ⟨#[46]⟩ | 9 => ⟨#[46]⟩ | 10 => ⟨#[46]⟩ | 11 => ⟨#[46]⟩ | 12 => ⟨#[46]⟩ | 13 => ⟨#[46]⟩ | 14 => ⟨#[32, 76, 61]⟩ | _ => ⟨#[32]⟩
def wrN (i : Nat) : Nat := if i = 4 then 8 else if i = 5 then 4 else if i = 15 then 4 else 2
def ahN (i : Nat) : Nat := (ahS i).size
def slowS : ByteArray := ⟨#[115, 108, 111, 119]⟩
def fastS : ByteArray := ⟨#[102, 97, 115, 116]⟩
/-- What is written of a register. -/
def wrS (i : Nat) (v : Int) : ByteArray := if i = 4 then strOfNums (tx (flF v) 8) else if i = 5 then strOfNums (hexL v 4) else if i = 15 then (if v = 0 then slowS else fastS) else strOfNums (hexL v 2)
theorem wrS_size (i : Nat) (v : Int) : (wrS i v).size = wrN i := by
  unfold wrS wrN
  split
  · rw [strOf_size, tx_len]
  · split
    · rw [strOf_size, hexL_len]
    · split
      · split <;> rfl
      · rw [strOf_size, hexL_len]
theorem wrN_le (i : Nat) : wrN i ≤ 8 := by unfold wrN; split; omega; split; omega; split <;> omega
theorem ahN_le (i : Nat) : ahN i ≤ 4 := by
  unfold ahN ahS
  split <;> decide
/-- The first k registers, written. -/
def txB (r : Nat → Int) : Nat → ByteArray
  | 0 => ⟨#[]⟩
  | k + 1 => txB r k ++ (ahS k ++ wrS k (r k))
theorem txB_size (r : Nat → Int) (k : Nat) : (txB r k).size ≤ 12 * k := by
  induction k with
  | zero => simp [txB]; rfl
  | succ k ih =>
    have h1 := ahN_le k
    have h2 := wrN_le k
    have h3 := wrS_size k (r k)
    unfold ahN at h1
    simp only [txB, ByteArray.size_append]
    omega
abbrev AT (w : World) : Prop := StrTab w 0 16 ahS
abbrev FT (w : World) : Prop := Tab8 w 2
theorem FT.below {w w' : World} (h : FT w) (hb : Below w.heap.size w w') : FT w' := Tab8.below h hb
set_option maxHeartbeats 4000000 in
theorem swritten_any {w : World} (h : FT w) (i : Nat) (hi : i < 16) (v : Int) (v0 : 0 ≤ v) (v1 : v ≤ mostP i) : Calls Tryd.prog 30 #[.int .i64 (i : Int), .int .u16 v] w fun e w' => e = .returned (.string (wrS i v)) ∧ Below w.heap.size w w' := by
  have HF := Lib.hid h
  clear h
  obtain ⟨S, hS⟩ : ∃ S, wrS i v = S := ⟨_, rfl⟩
  rw [hS]
  by_cases h4 : i = 4
  · subst h4
    have v2 : v ≤ 255 := v1
    have HS : Hid (strOfNums (tx (flF v) 8) = S) := Lib.hid hS
    clear hS v1
    go_enter Tryd.func30, Tryd.ntmps30
    go_wp2_with (go_at_call 24; refine (slo_any v v0 v2 _).mono ?_; rintro e w' ⟨rfl, rfl⟩)
    refine (ftext_any HF.out v).mono ?_
    rintro e w1 ⟨rfl, hb⟩
    rw [HS.out]
    have HB := Lib.hid hb
    clear hb
    go_wp2_with fail
    go_ret
    exact ⟨rfl, HB.out⟩
  · have e4 : ((i : Int) == 4) = false := by simp; omega
    by_cases h5 : i = 5
    · subst h5
      have v2 : v ≤ 65535 := v1
      have w1 : IntKind.u32.wrap v = v := IntWalk.u32_in _ (by omega)
      have HS : Hid (strOfNums (hexL v 4) = S) := Lib.hid hS
      clear hS v1
      go_enter Tryd.func30, Tryd.ntmps30
      go_wp2_with fail
      refine (hex_any v 4 _ v0 (by omega)).mono ?_
      rintro e w1 ⟨rfl, hb⟩
      rw [show held8 4 = 4 from rfl, HS.out]
      have HB := Lib.hid hb
      clear hb
      go_wp2_with fail
      go_ret
      exact ⟨rfl, HB.out⟩
    · have e5 : ((i : Int) == 5) = false := by simp; omega
      by_cases h15 : i = 15
      · subst h15
        by_cases hv : v = 0
        · subst hv
          have HS : Hid (slowS = S) := Lib.hid hS
          clear hS v1
          go_enter Tryd.func30, Tryd.ntmps30
          go_wp2_with fail
          go_ret
          exact ⟨by rw [← HS.out]; rfl, Below.refl _ _⟩
        · have hb : (v == 0) = false := by simp [hv]
          have HS : Hid (fastS = S) := Lib.hid (by rw [← hS]; unfold wrS; rw [if_neg (by decide), if_neg (by decide), if_pos rfl, if_neg hv])
          clear hS v1 hv
          go_enter Tryd.func30, Tryd.ntmps30
          go_wp2_with fail
          go_ret
          exact ⟨by rw [← HS.out]; rfl, Below.refl _ _⟩
      · have e15 : ((i : Int) == 15) = false := by simp; omega
        have v2 : v ≤ 255 := by unfold mostP at v1; rw [if_neg h5, if_neg h15] at v1; exact v1
        have w1 : IntKind.u32.wrap v = v := IntWalk.u32_in _ (by omega)
        have HS : Hid (strOfNums (hexL v 2) = S) := Lib.hid (by rw [← hS]; unfold wrS; rw [if_neg h4, if_neg h5, if_neg h15])
        clear hS v1 h4 h5 h15
        go_enter Tryd.func30, Tryd.ntmps30
        go_wp2_with fail
        refine (hex_any v 2 _ v0 (by omega)).mono ?_
        rintro e w1 ⟨rfl, hb⟩
        rw [show held8 2 = 2 from rfl, HS.out]
        have HB := Lib.hid hb
        clear hb
        go_wp2_with fail
        go_ret
        exact ⟨rfl, HB.out⟩
theorem isB_below {T e : TypeId} {B b : Nat} {bs : List Value} {w w' : World} (h : Lib.IsBuilder T e B b bs w) (hb : Below w.heap.size w w') : Lib.IsBuilder T e B b bs w' := by
  have key : ∀ p, Lib.BuilderAt T e B b p bs w → Lib.BuilderAt T e B b p bs w' := fun p ⟨h1, v, h2, h3, h4⟩ => ⟨h1, v, (hb.block b (Array.getElem?_eq_some_iff.1 h2).1).trans h2, own_belowS h3 hb, h4⟩
  exact h.elim (fun x => .inl (key _ x)) (fun x => .inr (key _ x))
theorem isB_lt {T e : TypeId} {B b : Nat} {bs : List Value} {w : World} (h : Lib.IsBuilder T e B b bs w) : b < w.heap.size := by
  rcases h with ⟨_, v, h2, _⟩ | ⟨_, v, h2, _⟩ <;> exact (Array.getElem?_eq_some_iff.1 h2).1
theorem strCells_app (a b : ByteArray) : Lib.strCells (a ++ b) = Lib.strCells a ++ Lib.strCells b := by
  rw [Lib.strCells_eq, Lib.strCells_eq, Lib.strCells_eq, ByteArray.data_append, Array.toList_append, Lib.byteCells_append]
end Go.Proofs.YtnnfnjbfjgjgnaaDoor
namespace Go.Proofs.YtnnfnjbfjgjgnaaDoor
open Go.RowKit
set_option linter.unusedVariables false
set_option linter.unusedSimpArgs false
set_option maxRecDepth 100000
theorem ba_list (s : ByteArray) : (⟨s.data.toList.toArray⟩ : ByteArray) = s := by cases s; simp
set_option maxHeartbeats 16000000 in
theorem stext_any (r : Nat → Int) (hr : StOk r) {w : World} (hA : AT w) (hF : FT w) : Calls Tryd.prog 13 #[.agg (stA r)] w fun e w' => e = .returned (.string (txB r 16)) ∧ Below w.heap.size w w' := by
  have HR := Lib.hid hr
  have HA := Lib.hid hA
  have HF := Lib.hid hF
  have h8 : (Tryd.prog.info? 25).map (·.size) = some (stA r).size := by rw [stA_size]; exact size_state
  have H8 := Lib.hid h8
  clear hr h8 hA hF
  obtain ⟨T, hT⟩ : ∃ T, txB r 16 = T := ⟨_, rfl⟩
  have HTT := Lib.hid hT
  rw [hT]
  clear hT
  go_enter Tryd.func13, Tryd.ntmps13
  go_upto_region 2 with fail
  have k0 : Blk ((w.alloc (.cells (stA r) 25)).alloc (.cells #[.pointer none, .slice none 0 0] 56)) w.heap.size 25 (stA r) := (Blk.new w _ _).alloc _
  have i0 : Lib.IsBuilder 56 5 w.heap.size (w.heap.size + 1) [] ((w.alloc (.cells (stA r) 25)).alloc (.cells #[.pointer none, .slice none 0 0] 56)) :=
    .inl ⟨by omega, .slice none 0 0, (show Blk _ (w.heap.size + 1) _ _ from Blk.new_ (by simp)), World.ownsRow_nil _ _ _ _, by simp [Value.ownBlock]⟩
  have b0 : Below w.heap.size w ((w.alloc (.cells (stA r) 25)).alloc (.cells #[.pointer none, .slice none 0 0] 56)) := ((Below.refl _ w).alloc (Nat.le_refl _) _).alloc (by simp) _
  have B0 := Lib.hid b0
  have I0 := Lib.hid i0
  clear b0 i0
  go_wp2_with (refine wpList_load_row rfl 25 (.tmp 1) rfl w.heap.size (by rfl) 25 (stA r) (0, 0) _ k0 Tryd.underlying25 rfl H8.out ?_)
  refine (sall_any r HR.out _).mono ?_
  rintro e w2 ⟨rfl, hb⟩
  have B2 := Lib.hid (B0.out.trans (hb.mono B0.out.size))
  have I2 := Lib.hid (isB_below I0.out hb)
  clear hb k0 B0 I0
  go_wp2_with fail
  go_loopw [8] (fun i wr => ∃ k : Nat, k ≤ 16 ∧ i = .int .i64 k ∧ Lib.IsBuilder 56 5 w.heap.size (w.heap.size + 1) (Lib.strCells (txB r k)) wr ∧ Below w.heap.size w wr) (fun i _ => 16 - (intOf i).toNat)
  case atStart => exact ⟨0, by omega, rfl, by exact I2.out, B2.out⟩
  case round =>
    clear B2 I2
    obtain ⟨k, hk, rfl, hI, hB⟩ := hrel
    by_cases hlt : k < 16
    · have q0 : (0 : Int) ≤ k := by omega
      have q1 : (k : Int) < 16 := by omega
      have hx := rw_ix r k hlt
      have ca : wr.cell? ⟨0, k, none⟩ = some (.string (ahS k)) := (HA.out.below hB).2 k hlt
      have hv := HR.out k hlt
      have hw := fun W (h : FT W) => swritten_any h k hlt (r k) hv.1 hv.2
      have sa : (ahS k).size ≤ 4 := ahN_le k
      have ss : (wrS k (r k)).size ≤ 8 := by rw [wrS_size]; exact wrN_le k
      have st := txB_size r k
      have HT : Hid (txB r (k + 1) = txB r k ++ (ahS k ++ wrS k (r k))) := Lib.hid rfl
      obtain ⟨a, ha⟩ : ∃ a, ahS k = a := ⟨_, rfl⟩
      obtain ⟨s, hs⟩ : ∃ s, wrS k (r k) = s := ⟨_, rfl⟩
      obtain ⟨x, hx'⟩ : ∃ x, r k = x := ⟨_, rfl⟩
      obtain ⟨t, ht⟩ : ∃ t, txB r k = t := ⟨_, rfl⟩
      rw [ha] at ca sa HT
      rw [hs] at hw ss HT
      rw [hx'] at hx hw hv
      rw [ht] at HT hI st
      have HW := Lib.hid hw
      have HI := Lib.hid hI
      have HB := Lib.hid hB
      have HC := Lib.hid ca
      have HAA := Lib.hid ha
      have hSz := hB.size
      clear ca ha hs hx' ht hw hI hB
      have hS : ∀ W W', W.cell? ⟨0, k, none⟩ = some (.string a) → Below W.heap.size W W' → W'.cell? ⟨0, k, none⟩ = some (.string a) := fun W W' h hb => (hb.cell (World.block_lt_of_cell? _ _ h)).trans h
      have HS := Lib.hid hS
      clear hS
      go_upto_region 5 with fail
      refine rg_begin (S := fun w' => w'.cell? ⟨0, k, none⟩ = some (.string a)) 8 #[false, false, false, false, false, false, false, false] (by kernel_rfl) (by kernel_rfl) (by kernel_rfl) ?_ (fun hHeld => ?_)
      · exact HC.out
      refine rg_take (i := 0) (d := some 12) (l := #[true, false, false, false, false, false, false, false]) (fuel := 7) (v := ?_) rfl (by kernel_rfl) (by kernel_rfl) (by kernel_rfl) (by kernel_rfl) (by kernel_rfl) (fun _ _ _ h => h) (by kernel_rfl) ?_ (by assumption) ?_
      rotate_left 1
      · (intro wS hSw; (try dsimp only at hSw); go_simp; try with_reducible rfl)
      try simp only [Act.put, List.setIfInBounds_toArray, List.set_cons_zero, List.set_cons_succ]
      refine rg_take (i := 1) (d := some 13) (l := #[true, true, false, false, false, false, false, false]) (fuel := 6) (v := ?_) rfl (by kernel_rfl) (by kernel_rfl) (by kernel_rfl) (by kernel_rfl) (by kernel_rfl) (fun _ _ _ h => h) (by kernel_rfl) ?_ (by assumption) ?_
      rotate_left 1
      · (intro wS hSw; (try dsimp only at hSw); go_simp; try with_reducible rfl)
      try simp only [Act.put, List.setIfInBounds_toArray, List.set_cons_zero, List.set_cons_succ]
      refine rg_take (i := 2) (d := some 14) (l := #[true, true, true, false, false, false, false, false]) (fuel := 5) (v := ?_) rfl (by kernel_rfl) (by kernel_rfl) (by kernel_rfl) (by kernel_rfl) (by kernel_rfl) (fun _ _ _ h => h) (by kernel_rfl) ?_ (by assumption) ?_
      rotate_left 1
      · (intro wS hSw; (try dsimp only at hSw); go_simp; try with_reducible rfl)
      try simp only [Act.put, List.setIfInBounds_toArray, List.set_cons_zero, List.set_cons_succ]
      refine rg_take (i := 3) (d := some 15) (l := #[true, true, true, true, false, false, false, false]) (fuel := 4) (v := ?_) rfl (by kernel_rfl) (by kernel_rfl) (by kernel_rfl) (by kernel_rfl) (by kernel_rfl) (fun _ _ _ h => h) (by kernel_rfl) ?_ (by assumption) ?_
      rotate_left 1
      · (intro wS hSw; (try dsimp only at hSw); go_simp; try with_reducible rfl)
      try simp only [Act.put, List.setIfInBounds_toArray, List.set_cons_zero, List.set_cons_succ]
      refine rg_take (i := 4) (d := some 16) (l := #[true, true, true, true, true, false, false, false]) (fuel := 3) (v := ?_) rfl (by kernel_rfl) (by kernel_rfl) (by kernel_rfl) (by kernel_rfl) (by kernel_rfl) (fun _ _ _ h => h) (by kernel_rfl) ?_ (by assumption) ?_
      rotate_left 1
      · (intro wS hSw; (try dsimp only at hSw); go_simp; try with_reducible rfl)
      try simp only [Act.put, List.setIfInBounds_toArray, List.set_cons_zero, List.set_cons_succ]
      refine rg_next (i := 5) (l := #[true, true, true, true, true, true, false, false]) (fuel := 2) (by kernel_rfl) rfl (by kernel_rfl) (by kernel_rfl) (fun K hK => ?_)
      go_simp
      go_at_call 30
      refine (HW.out _ (HF.out.below HB.out.drew)).mono ?_
      rintro e w1 ⟨rfl, b1⟩
      first | (refine hK.out _ _ ?_ (fun hHeld => ?_)) | (go_wp2_with fail; refine hK.out _ _ ?_ (fun hHeld => ?_))
      · (try dsimp only); exact HS.out _ _ (by exact HC.out) b1
      clear hK K
      try simp only [Act.put, List.setIfInBounds_toArray, List.set_cons_zero, List.set_cons_succ]
      refine rg_take (i := 6) (d := some 18) (l := #[true, true, true, true, true, true, true, false]) (fuel := 1) (v := .string (a ++ s)) rfl (by kernel_rfl) (by kernel_rfl) (by kernel_rfl) (by kernel_rfl) (by kernel_rfl) (fun _ _ _ h => h) (by kernel_rfl) ?_ (by assumption) ?_
      · (intro wS hSw; (try dsimp only at hSw); (have hno : ¬ (9223372036854775807 < a.size + s.size) := by omega); go_simp)
      try simp only [Act.put, List.setIfInBounds_toArray, List.set_cons_zero, List.set_cons_succ]
      refine rg_next (i := 7) (l := #[true, true, true, true, true, true, true, true]) (fuel := 0) (by kernel_rfl) rfl (by kernel_rfl) (by kernel_rfl) (fun K hK => ?_)
      go_simp
      go_at_call 29
      refine (sh_bwrite w.heap.size (w.heap.size + 1) (Lib.strCells t) (a ++ s) _ (isB_below (by exact HI.out) b1) (by rw [Lib.strCells_length, ByteArray.size_append]; omega) (by have := b1.size; simp at this; omega)).mono ?_
      rintro e w2 ⟨rfl, hI2, b2⟩
      first | (refine hK.out _ _ ?_ (fun hHeld => ?_)) | (go_wp2_with fail; refine hK.out _ _ ?_ (fun hHeld => ?_))
      · (try dsimp only); exact (b2.cell (p := ⟨0, k, none⟩) HA.out.1).trans (HS.out _ _ (by exact HC.out) b1)
      clear hK K
      try simp only [Act.put, List.setIfInBounds_toArray, List.set_cons_zero, List.set_cons_succ]
      refine wpAnyH_done (by kernel_rfl) ?_ _
      have I2 := Lib.hid hI2
      have B2 := Lib.hid ((HB.out.drew.trans (b1.mono HB.out.drew.size)).trans b2)
      clear hI2 b1 b2 hHeld hx
      go_wp2_with fail
      go_roundw
      case rel => exact ⟨k + 1, by omega, by go_num, by rw [HT.out, strCells_app]; exact I2.out, B2.out⟩
      case measure => simp [intOf]; omega
    · obtain rfl : k = 16 := by omega
      have hst := sh_bstring w.heap.size (w.heap.size + 1) (txB r 16).data.toList wr (by rw [← Lib.strCells_eq]; exact hI) hB.size
      rw [ba_list, HTT.out] at hst
      have HB := Lib.hid hB
      clear hI hB
      go_wp2_with fail
      refine hst.mono ?_
      rintro e w2 ⟨rfl, b2⟩
      have B2 := Lib.hid (HB.out.trans b2)
      clear b2
      go_wp2_with fail
      go_ret
      exact ⟨rfl, B2.out⟩
end Go.Proofs.YtnnfnjbfjgjgnaaDoor
namespace Go.Proofs.YtnnfnjbfjgjgnaaDoor
open Go.RowKit
set_option linter.unusedVariables false
set_option linter.unusedSimpArgs false
set_option maxRecDepth 100000
def tkB (s : ByteArray) (n : Nat) : ByteArray := s.extract 0 (min n s.size)
def dpB (s : ByteArray) (n : Nat) : ByteArray := s.extract (min n s.size) s.size
theorem tkB_size (s : ByteArray) (n : Nat) : (tkB s n).size ≤ n := by unfold tkB; rw [ByteArray.size_extract]; omega
theorem dpB_size (s : ByteArray) (n : Nat) : (dpB s n).size ≤ s.size := by unfold dpB; rw [ByteArray.size_extract]; omega
set_option maxHeartbeats 4000000 in
theorem scut_any (s : ByteArray) (n : Nat) (hn : n ≤ 1000) (hs : s.size ≤ maxLen) (w : World) : Calls Tryd.prog 32 #[.string s, .int .i64 (n : Int)] w fun e w' => e = .returned (.tuple #[.string (tkB s n), .string (dpB s n)]) ∧ Below w.heap.size w w' := by
  have h0 : (0 : Int) ≤ n := by omega
  have h1 : (n : Int) ≤ 1000 := by omega
  have h2 : (s.size : Int) ≤ 9223372036854775807 := by unfold maxLen at hs; omega
  obtain ⟨m, hm⟩ : ∃ m, min n s.size = m := ⟨_, rfl⟩
  have hm1 : (m : Int) ≤ s.size := by omega
  have hm0 : (0 : Int) ≤ m := by omega
  have hmin : min (n : Int) (s.size : Int) = m := by omega
  have HT : Hid (tkB s n = s.extract 0 m) := Lib.hid (by unfold tkB; rw [hm])
  have HD : Hid (dpB s n = s.extract m s.size) := Lib.hid (by unfold dpB; rw [hm])
  rw [HT.out, HD.out]
  clear hm hs
  go_enter Tryd.func32, Tryd.ntmps32
  go_wp2_with fail
  go_quiet (fail)
  go_wp2_with fail
  go_ret2
  exact ⟨rfl, below_drewN (Below.refl _ w) _⟩
/-- The number of a register that is written so; any one, if it isn't. -/
def nbP (i : Nat) (t : ByteArray) : Int := if i = 4 then (rdI t).1 else if i = 15 then (if t = fastS then 1 else 0) else IntKind.u16.wrap (fhA t).1
theorem rdI_bd (t : ByteArray) : 0 ≤ (rdI t).1 ∧ (rdI t).1 ≤ 255 := by
  unfold rdI
  split
  · exact rk_bd t 8
  · exact ⟨Int.le_refl _, by decide⟩
theorem fhA_bd (t : ByteArray) (k : Nat) (hk : t.size ≤ k) : 0 ≤ (fhA t).1 ∧ (fhA t).1 < 16 ^ k := by
  have hp : (0 : Int) < 16 ^ k := Int.pow_pos (by decide)
  unfold fhA
  split
  · exact ⟨Int.le_refl _, hp⟩
  · split
    · exact ⟨Int.le_refl _, hp⟩
    · unfold fhR
      split
      · have := numL_bd t.data.toList
        have hl : t.data.toList.length = t.size := Array.length_toList
        have h2 : (16 : Int) ^ t.data.toList.length ≤ 16 ^ k := by
          rw [hl]
          have := Nat.pow_le_pow_right (n := 16) (by decide) hk
          exact_mod_cast this
        exact ⟨this.1, Int.lt_of_lt_of_le this.2 h2⟩
      · exact ⟨Int.le_refl _, hp⟩
theorem nbP_bd (i : Nat) (t : ByteArray) (ht : t.size ≤ wrN i) : 0 ≤ nbP i t ∧ nbP i t ≤ mostP i := by
  unfold nbP mostP
  unfold wrN at ht
  by_cases h4 : i = 4
  · subst h4
    rw [if_pos rfl, if_neg (by decide), if_neg (by decide)]
    exact rdI_bd t
  · rw [if_neg h4]
    rw [if_neg h4] at ht
    by_cases h5 : i = 5
    · subst h5
      rw [if_neg (by decide), if_pos rfl, v16_mod]
      omega
    · rw [if_neg h5]
      rw [if_neg h5] at ht
      by_cases h15 : i = 15
      · subst h15
        rw [if_pos rfl, if_pos rfl]
        split <;> decide
      · rw [if_neg h15, if_neg h15]
        rw [if_neg h15] at ht
        have := fhA_bd t 2 ht
        rw [v16_mod]
        omega
set_option maxHeartbeats 4000000 in
theorem snumber_any {w : World} (h : FT w) (i : Nat) (hi : i < 16) (t : ByteArray) (ht : t.size ≤ 1000) : Calls Tryd.prog 33 #[.int .i64 (i : Int), .string t] w fun e w' => e = .returned (.int .u16 (nbP i t)) ∧ Below w.heap.size w w' := by
  have HF := Lib.hid h
  clear h
  obtain ⟨N, hN⟩ : ∃ N, nbP i t = N := ⟨_, rfl⟩
  rw [hN]
  by_cases h4 : i = 4
  · subst h4
    have hb := rdI_bd t
    have HS : Hid ((rdI t).1 = N) := Lib.hid hN
    obtain ⟨x, hx⟩ : ∃ x, rdI t = x := ⟨_, rfl⟩
    obtain ⟨x1, x2⟩ := x
    rw [hx] at HS hb
    dsimp only at hb
    have w1 : IntKind.u16.wrap x1 = x1 := IntWalk.u16_in _ (by omega)
    have HX := Lib.hid hx
    clear hN hx
    go_enter Tryd.func33, Tryd.ntmps33
    go_wp2_with fail
    refine (fread_any HF.out t).mono ?_
    rw [HX.out]
    rintro e w1 ⟨rfl, hb⟩
    have HB := Lib.hid hb
    clear hb
    go_wp2_with fail
    go_ret
    exact ⟨by rw [← HS.out]; rfl, HB.out⟩
  · have e4 : ((i : Int) == 4) = false := by simp; omega
    by_cases h15 : i = 15
    · subst h15
      by_cases hf : t = fastS
      · have hb : (t.toList == [102, 97, 115, 116]) = true := by rw [hf]; decide +kernel
        have HS : Hid (1 = N) := Lib.hid (by rw [← hN, hf]; rfl)
        clear hN hf
        go_enter Tryd.func33, Tryd.ntmps33
        go_wp2_with fail
        go_ret
        exact ⟨by rw [← HS.out]; rfl, Below.refl _ _⟩
      · have hb : (t.toList == [102, 97, 115, 116]) = false := by
          have := ba_ne hf
          rwa [show fastS.toList = [102, 97, 115, 116] by decide +kernel] at this
        have HS : Hid (0 = N) := Lib.hid (by rw [← hN]; unfold nbP; rw [if_neg (by decide), if_pos rfl, if_neg hf])
        clear hN hf
        go_enter Tryd.func33, Tryd.ntmps33
        go_wp2_with fail
        go_ret
        exact ⟨by rw [← HS.out]; rfl, Below.refl _ _⟩
    · have e15 : ((i : Int) == 15) = false := by simp; omega
      have HS : Hid (IntKind.u16.wrap (fhA t).1 = N) := Lib.hid (by rw [← hN]; unfold nbP; rw [if_neg h4, if_neg h15])
      obtain ⟨x, hx⟩ : ∃ x, fhA t = x := ⟨_, rfl⟩
      obtain ⟨x1, x2⟩ := x
      rw [hx] at HS
      have HX := Lib.hid hx
      clear hN hx
      go_enter Tryd.func33, Tryd.ntmps33
      go_wp2_with fail
      refine (fromhex_any t _ (by unfold maxLen; omega)).mono ?_
      rw [HX.out]
      rintro e w1 ⟨rfl, hb⟩
      have HB := Lib.hid hb
      clear hb
      go_wp2_with fail
      go_ret
      exact ⟨by rw [← HS.out]; rfl, HB.out⟩
end Go.Proofs.YtnnfnjbfjgjgnaaDoor
