/-
  Pages and the answer's go on alike: play.
-/
import Derived.Test.YtccimkmlbcgekaaDoorMmu9
import Derived.Test.YtccimkmlbcgekaaDoorG14
import Derived.Test.YtccimkmlbcgekaaDoorG19
import Derived.Test.YtccimkmlbcgekaaDoorG21
import Derived.Deep.RegionHeld3
namespace Go.Proofs.YtccimkmlbcgekaaDoor
open Go.RowKit
set_option linter.unusedVariables false
set_option linter.unusedSimpArgs false
set_option maxRecDepth 100000
def FK3 : List FK := [.int .u8, .int .u8, .int .u8]
def MvOk (n : Nat) (qs : Nat → Nat → Value) : Prop := ∀ i, i < n → ∀ (j : Nat) (k : FK), FK3[j]? = some k → k.ok (qs i j)
theorem fkCells3 {w : World} {A : Option Addr} {n : Nat} {qs : Nat → Nat → Value} (Q : FRow w 3 A n qs) (k : Nat) (hk : k < n) : ∃ ad : Addr, A = some ad ∧ ad.block < w.heap.size ∧ w.cell? (ad.add (k * 3)) = some (qs k 0) ∧
    w.cell? ⟨(ad.add (k * 3)).block, (ad.add (k * 3)).off + 1, none⟩ = some (qs k 1) ∧ w.cell? ⟨(ad.add (k * 3)).block, (ad.add (k * 3)).off + 2, none⟩ = some (qs k 2) := by
  obtain ⟨ad, e, hl, hc⟩ := Q k hk
  refine ⟨ad, e, hl, hc 0 (by decide), ?_, ?_⟩
  · have h := hc 1 (by decide)
    rw [← add_of_add] at h; exact h
  · have h := hc 2 (by decide)
    rw [← add_of_add] at h; exact h
/-- Pages and the answer's, alike, made since W. -/
def MPl (W : World) (g r : Nat) (z : Nat → Int) (l : Int) (w : World) : Prop := MM w g z l ∧ RM w r z l ∧ Below W.heap.size W w
def MPlR (W : World) (g r : Nat) (w : World) (e : Ending) (w' : World) : Prop := e = .returned (.bool true) ∧ (∃ z l, MPl W g r z l w') ∧ Kp [g, r] w w'
theorem MPl.ne {W w : World} {g r : Nat} {z : Nat → Int} {l : Int} (h : MPl W g r z l w) : g ≠ r := Blk.ne_ h.1 h.2.1 (by decide)
theorem MPl.kp0 {W w w' : World} {g r : Nat} {z : Nat → Int} {l : Int} (h : MPl W g r z l w) (k : Kp [] w w') : MPl W g r z l w' := ⟨h.1.kp k (by simp), h.2.1.kp k (by simp), k.onto h.2.2 h.2.2.size (by simp)⟩
theorem MPl.on {W w w' : World} {g r : Nat} {z : Nat → Int} {l : Int} (h : MPl W g r z l w) (b : Below w.heap.size w w') : MPl W g r z l w' := ⟨h.1.below b h.1.lt_, h.2.1.below b h.2.1.lt_, h.2.2.trans (b.mono h.2.2.size)⟩
/-- One of both goes on, then the other. -/
theorem MPl.two {W w w1 w2 : World} {g r : Nat} {z z' : Nat → Int} {l l' : Int} (h : MPl W g r z l w) (hg : W.heap.size ≤ g ∧ W.heap.size ≤ r) (h1 : MM w1 g z' l') (k1 : Kp [g] w w1) (h2 : RM w2 r z' l') (k2 : Kp [r] w1 w2) : MPl W g r z' l' w2 ∧ Kp [g, r] w w2 := by
  have hne := h.ne
  exact ⟨⟨h1.kp k2 (by simpa using hne), h2, k2.onto (k1.onto h.2.2 h.2.2.size (by simpa using hg.1)) (Nat.le_trans h.2.2.size k1.size) (by simpa using hg.2)⟩, (k1.mono (by simp)).trans (k2.mono (M := [g, r]) (by simp)) (by simp)⟩
theorem mvd_reset (z : Nat → Int) (l : Int) : mmC (mvd z 128 0) l = mmC (fun i => if i = 7 then 0 else z i) l := mmC_congr fun i hi => by
  have : bitB 128 (i : Int) = decide (i = 7) := (by decide +kernel : ∀ x : Fin 8, bitB 128 (x.val : Int) = decide (x.val = 7)) ⟨i, hi⟩
  unfold mvd
  rw [this]
  by_cases e : i = 7
  · rw [decide_eq_true e, if_pos rfl, if_pos e]
  · rw [decide_eq_false e, if_neg (by decide), if_neg e]
set_option maxHeartbeats 8000000 in
theorem mplay_any {W w : World} {g r m cm : Nat} {z : Nat → Int} {l : Int} {A : Option Addr} {qs : Nat → Nat → Value} (h : MPl W g r z l w) (Q : FRow W 3 A m qs)
    (F : MvOk m qs) (hm : m ≤ 200) (hg : W.heap.size ≤ g ∧ W.heap.size ≤ r) :
    Calls Tryd.prog 10 #[.pointer (some ⟨g, 0, none⟩), .pointer (some ⟨r, 0, none⟩), .slice A m cm] w (MPlR W g r w) := by
  have H := Lib.hid h
  have HQ := Lib.hid Q
  have HF := Lib.hid F
  have HG := Lib.hid hg
  clear h Q F hg
  go_enter Tryd.func10, Tryd.ntmps10
  go_wp2_with fail
  go_loopw [7] (fun i wr => ∃ k : Nat, k ≤ m ∧ i = .int .i64 k ∧ (∃ z l, MPl W g r z l wr) ∧ Kp [g, r] w wr) (fun i _ => m - (intOf i).toNat)
  case atStart => exact ⟨0, Nat.zero_le _, rfl, ⟨z, l, H.out⟩, Kp.refl _ _⟩
  case round =>
    clear H
    obtain ⟨k, hk, rfl, ⟨z, l, hI⟩, hK⟩ := hrel
    have HI := Lib.hid hI
    have HK := Lib.hid hK
    by_cases hlt : k < m
    · obtain ⟨ad, rfl, hl, q0, q1, q2⟩ := fkCells3 (FRow.keep HQ.out hI.2.2) k hlt
      obtain ⟨kd, e0, v0⟩ := HF.out k hlt 0 _ rfl
      obtain ⟨a, e1, v1⟩ := HF.out k hlt 1 _ rfl
      obtain ⟨u, e2, v2⟩ := HF.out k hlt 2 _ rfl
      rw [e0] at q0
      rw [e1] at q1
      rw [e2] at q2
      obtain ⟨k0, k1⟩ := bounds_u8 v0
      obtain ⟨a0, a1⟩ := bounds_u8 v1
      obtain ⟨u0, u1⟩ := bounds_u8 v2
      have i0 : (0 : Int) ≤ (k : Int) := by omega
      have i1 : (k : Int) < m := by omega
      obtain ⟨t, ht⟩ : ∃ t, kd % 3 = t := ⟨_, rfl⟩
      have hmod : kd.tmod 3 = t := by rw [Int.tmod_eq_emod_of_nonneg k0, ht]
      have htc : t = 0 ∨ t = 1 ∨ t = 2 := by omega
      have ad_lt := hl
      have E1 := Lib.hid e1
      have E2 := Lib.hid e2
      clear hI hK v0 v1 v2 e0 e1 e2 ht
      go_upto_block 2 with fail
      go_cut [7] from 8 to 68 (fun i wx => i = .int .i64 k ∧ (∃ z l, MPl W g r z l wx) ∧ Kp [g, r] w wx)
      case first =>
        have gg := HG.out
        rcases htc with rfl | rfl | rfl
        · go_upto_region 8 with fail
          refine rg_begin (S := fun w' => w'.cell? ⟨(ad.add (k * 3)).block, (ad.add (k * 3)).off + 1, none⟩ = some (.int .u8 a) ∧ w'.cell? ⟨(ad.add (k * 3)).block, (ad.add (k * 3)).off + 2, none⟩ = some (.int .u8 u)) 12 #[false, false, false, false, false, false, false, false, false, false, false, false] (by kernel_rfl) (by kernel_rfl) (by kernel_rfl) ?_ (fun hHeld => ?_)
          · exact ⟨q1, q2⟩
          refine rg_take (i := 0) (d := some 28) (l := #[true, false, false, false, false, false, false, false, false, false, false, false]) (fuel := 11) (v := ?_) rfl (by kernel_rfl) (by kernel_rfl) (by kernel_rfl) (by kernel_rfl) (by kernel_rfl) (fun _ _ _ h => h) (by kernel_rfl) ?_ (by assumption) ?_
          rotate_left 1
          · (intro wS hSw; (try dsimp only at hSw); go_simp; try with_reducible rfl)
          try simp only [Act.put, List.setIfInBounds_toArray, List.set_cons_zero, List.set_cons_succ]
          refine rg_take (i := 1) (d := some 29) (l := #[true, true, false, false, false, false, false, false, false, false, false, false]) (fuel := 10) (v := ?_) rfl (by kernel_rfl) (by kernel_rfl) (by kernel_rfl) (by kernel_rfl) (by kernel_rfl) (fun _ _ _ h => h) (by kernel_rfl) ?_ (by assumption) ?_
          rotate_left 1
          · (intro wS hSw; (try dsimp only at hSw); go_simp; try with_reducible rfl)
          try simp only [Act.put, List.setIfInBounds_toArray, List.set_cons_zero, List.set_cons_succ]
          refine rg_take (i := 2) (d := some 30) (l := #[true, true, true, false, false, false, false, false, false, false, false, false]) (fuel := 9) (v := ?_) rfl (by kernel_rfl) (by kernel_rfl) (by kernel_rfl) (by kernel_rfl) (by kernel_rfl) (fun _ _ _ h => h) (by kernel_rfl) ?_ (by assumption) ?_
          rotate_left 1
          · (intro wS hSw; (try dsimp only at hSw); go_simp; try with_reducible rfl)
          try simp only [Act.put, List.setIfInBounds_toArray, List.set_cons_zero, List.set_cons_succ]
          refine rg_take (i := 3) (d := some 31) (l := #[true, true, true, true, false, false, false, false, false, false, false, false]) (fuel := 8) (v := ?_) rfl (by kernel_rfl) (by kernel_rfl) (by kernel_rfl) (by kernel_rfl) (by kernel_rfl) (fun _ _ _ h => h) (by kernel_rfl) ?_ (by assumption) ?_
          rotate_left 1
          · (intro wS hSw; (try dsimp only at hSw); go_simp; try with_reducible rfl)
          try simp only [Act.put, List.setIfInBounds_toArray, List.set_cons_zero, List.set_cons_succ]
          refine rg_take (i := 4) (d := some 32) (l := #[true, true, true, true, true, false, false, false, false, false, false, false]) (fuel := 7) (v := ?_) rfl (by kernel_rfl) (by kernel_rfl) (by kernel_rfl) (by kernel_rfl) (by kernel_rfl) (fun _ _ _ h => h) (by kernel_rfl) ?_ (by assumption) ?_
          rotate_left 1
          · (intro wS hSw; (try dsimp only at hSw); go_simp; try with_reducible rfl)
          try simp only [Act.put, List.setIfInBounds_toArray, List.set_cons_zero, List.set_cons_succ]
          refine rg_take (i := 5) (d := some 33) (l := #[true, true, true, true, true, true, false, false, false, false, false, false]) (fuel := 6) (v := ?_) rfl (by kernel_rfl) (by kernel_rfl) (by kernel_rfl) (by kernel_rfl) (by kernel_rfl) (fun _ _ _ h => h) (by kernel_rfl) ?_ (by assumption) ?_
          rotate_left 1
          · (intro wS hSw; (try dsimp only at hSw); go_simp; try with_reducible rfl)
          try simp only [Act.put, List.setIfInBounds_toArray, List.set_cons_zero, List.set_cons_succ]
          refine rg_take (i := 6) (d := some 34) (l := #[true, true, true, true, true, true, true, false, false, false, false, false]) (fuel := 5) (v := ?_) rfl (by kernel_rfl) (by kernel_rfl) (by kernel_rfl) (by kernel_rfl) (by kernel_rfl) (fun _ _ _ h => h) (by kernel_rfl) ?_ (by assumption) ?_
          rotate_left 1
          · (intro wS hSw; (try dsimp only at hSw); go_simp; try with_reducible rfl)
          try simp only [Act.put, List.setIfInBounds_toArray, List.set_cons_zero, List.set_cons_succ]
          refine rg_take (i := 7) (d := some 35) (l := #[true, true, true, true, true, true, true, true, false, false, false, false]) (fuel := 4) (v := ?_) rfl (by kernel_rfl) (by kernel_rfl) (by kernel_rfl) (by kernel_rfl) (by kernel_rfl) (fun _ _ _ h => h) (by kernel_rfl) ?_ (by assumption) ?_
          rotate_left 1
          · (intro wS hSw; (try dsimp only at hSw); go_simp; try with_reducible rfl)
          try simp only [Act.put, List.setIfInBounds_toArray, List.set_cons_zero, List.set_cons_succ]
          refine rg_take (i := 8) (d := some 36) (l := #[true, true, true, true, true, true, true, true, true, false, false, false]) (fuel := 3) (v := ?_) rfl (by kernel_rfl) (by kernel_rfl) (by kernel_rfl) (by kernel_rfl) (by kernel_rfl) (fun _ _ _ h => h) (by kernel_rfl) ?_ (by assumption) ?_
          rotate_left 1
          · (intro wS hSw; (try dsimp only at hSw); go_simp; try with_reducible rfl)
          try simp only [Act.put, List.setIfInBounds_toArray, List.set_cons_zero, List.set_cons_succ]
          refine rg_take (i := 9) (d := some 37) (l := #[true, true, true, true, true, true, true, true, true, true, false, false]) (fuel := 2) (v := ?_) rfl (by kernel_rfl) (by kernel_rfl) (by kernel_rfl) (by kernel_rfl) (by kernel_rfl) (fun _ _ _ h => h) (by kernel_rfl) ?_ (by assumption) ?_
          rotate_left 1
          · (intro wS hSw; (try dsimp only at hSw); go_simp; try with_reducible rfl)
          try simp only [Act.put, List.setIfInBounds_toArray, List.set_cons_zero, List.set_cons_succ]
          refine rg_take (i := 10) (d := some 38) (l := #[true, true, true, true, true, true, true, true, true, true, true, false]) (fuel := 1) (v := ?_) rfl (by kernel_rfl) (by kernel_rfl) (by kernel_rfl) (by kernel_rfl) (by kernel_rfl) (fun _ _ _ h => h) (by kernel_rfl) ?_ (by assumption) ?_
          rotate_left 1
          · (intro wS hSw; (try dsimp only at hSw); go_simp; try with_reducible rfl)
          try simp only [Act.put, List.setIfInBounds_toArray, List.set_cons_zero, List.set_cons_succ]
          refine rg_next (i := 11) (l := #[true, true, true, true, true, true, true, true, true, true, true, true]) (fuel := 0) (by kernel_rfl) rfl (by kernel_rfl) (by kernel_rfl) (fun K hK => ?_)
          go_simp
          (go_at_call 43)
          refine (mset_any (HI.out.kp0 (Kp.refl _ _).drew).1 a u).mono ?_
          rintro e w1 ⟨rfl, y1, y2⟩
          replace y2 : Kp [g] wr w1 := ((Kp.refl [g] wr).drew).trans y2 (by simp)
          have R1 := Lib.hid (HI.out.2.1.kp y2 (by simpa using HI.out.ne.symm))
          have Y1 := Lib.hid y1
          have Y2 := Lib.hid y2
          have B1 := Lib.hid (y2.onto HI.out.2.2 HI.out.2.2.size (by simpa using gg.1))
          obtain ⟨ad2, e9, -, -, q1', q2'⟩ := fkCells3 (FRow.keep HQ.out B1.out) k hlt
          obtain rfl := Option.some.inj e9
          rw [E1.out] at q1'
          rw [E2.out] at q2'
          clear y1 y2 q1 q2
          first | (refine hK.out _ _ ?_ (fun hHeld => ?_)) | (go_wp2_with fail; refine hK.out _ _ ?_ (fun hHeld => ?_))
          · (try dsimp only); exact ⟨q1', q2'⟩
          clear hK K
          try simp only [Act.put, List.setIfInBounds_toArray, List.set_cons_zero, List.set_cons_succ]
          refine wpAnyH_done (by kernel_rfl) ?_ _
          clear hHeld
          go_upto_region 9 with fail
          refine rg_begin (S := fun w' => w'.cell? ⟨(ad.add (k * 3)).block, (ad.add (k * 3)).off + 1, none⟩ = some (.int .u8 a) ∧ w'.cell? ⟨(ad.add (k * 3)).block, (ad.add (k * 3)).off + 2, none⟩ = some (.int .u8 u)) 12 #[false, false, false, false, false, false, false, false, false, false, false, false] (by kernel_rfl) (by kernel_rfl) (by kernel_rfl) ?_ (fun hHeld => ?_)
          · exact ⟨q1', q2'⟩
          refine rg_take (i := 0) (d := some 40) (l := #[true, false, false, false, false, false, false, false, false, false, false, false]) (fuel := 11) (v := ?_) rfl (by kernel_rfl) (by kernel_rfl) (by kernel_rfl) (by kernel_rfl) (by kernel_rfl) (fun _ _ _ h => h) (by kernel_rfl) ?_ (by assumption) ?_
          rotate_left 1
          · (intro wS hSw; (try dsimp only at hSw); go_simp; try with_reducible rfl)
          try simp only [Act.put, List.setIfInBounds_toArray, List.set_cons_zero, List.set_cons_succ]
          refine rg_take (i := 1) (d := some 41) (l := #[true, true, false, false, false, false, false, false, false, false, false, false]) (fuel := 10) (v := ?_) rfl (by kernel_rfl) (by kernel_rfl) (by kernel_rfl) (by kernel_rfl) (by kernel_rfl) (fun _ _ _ h => h) (by kernel_rfl) ?_ (by assumption) ?_
          rotate_left 1
          · (intro wS hSw; (try dsimp only at hSw); go_simp; try with_reducible rfl)
          try simp only [Act.put, List.setIfInBounds_toArray, List.set_cons_zero, List.set_cons_succ]
          refine rg_take (i := 2) (d := some 42) (l := #[true, true, true, false, false, false, false, false, false, false, false, false]) (fuel := 9) (v := ?_) rfl (by kernel_rfl) (by kernel_rfl) (by kernel_rfl) (by kernel_rfl) (by kernel_rfl) (fun _ _ _ h => h) (by kernel_rfl) ?_ (by assumption) ?_
          rotate_left 1
          · (intro wS hSw; (try dsimp only at hSw); go_simp; try with_reducible rfl)
          try simp only [Act.put, List.setIfInBounds_toArray, List.set_cons_zero, List.set_cons_succ]
          refine rg_take (i := 3) (d := some 43) (l := #[true, true, true, true, false, false, false, false, false, false, false, false]) (fuel := 8) (v := ?_) rfl (by kernel_rfl) (by kernel_rfl) (by kernel_rfl) (by kernel_rfl) (by kernel_rfl) (fun _ _ _ h => h) (by kernel_rfl) ?_ (by assumption) ?_
          rotate_left 1
          · (intro wS hSw; (try dsimp only at hSw); go_simp; try with_reducible rfl)
          try simp only [Act.put, List.setIfInBounds_toArray, List.set_cons_zero, List.set_cons_succ]
          refine rg_take (i := 4) (d := some 44) (l := #[true, true, true, true, true, false, false, false, false, false, false, false]) (fuel := 7) (v := ?_) rfl (by kernel_rfl) (by kernel_rfl) (by kernel_rfl) (by kernel_rfl) (by kernel_rfl) (fun _ _ _ h => h) (by kernel_rfl) ?_ (by assumption) ?_
          rotate_left 1
          · (intro wS hSw; (try dsimp only at hSw); go_simp; try with_reducible rfl)
          try simp only [Act.put, List.setIfInBounds_toArray, List.set_cons_zero, List.set_cons_succ]
          refine rg_take (i := 5) (d := some 45) (l := #[true, true, true, true, true, true, false, false, false, false, false, false]) (fuel := 6) (v := ?_) rfl (by kernel_rfl) (by kernel_rfl) (by kernel_rfl) (by kernel_rfl) (by kernel_rfl) (fun _ _ _ h => h) (by kernel_rfl) ?_ (by assumption) ?_
          rotate_left 1
          · (intro wS hSw; (try dsimp only at hSw); go_simp; try with_reducible rfl)
          try simp only [Act.put, List.setIfInBounds_toArray, List.set_cons_zero, List.set_cons_succ]
          refine rg_take (i := 6) (d := some 46) (l := #[true, true, true, true, true, true, true, false, false, false, false, false]) (fuel := 5) (v := ?_) rfl (by kernel_rfl) (by kernel_rfl) (by kernel_rfl) (by kernel_rfl) (by kernel_rfl) (fun _ _ _ h => h) (by kernel_rfl) ?_ (by assumption) ?_
          rotate_left 1
          · (intro wS hSw; (try dsimp only at hSw); go_simp; try with_reducible rfl)
          try simp only [Act.put, List.setIfInBounds_toArray, List.set_cons_zero, List.set_cons_succ]
          refine rg_take (i := 7) (d := some 47) (l := #[true, true, true, true, true, true, true, true, false, false, false, false]) (fuel := 4) (v := ?_) rfl (by kernel_rfl) (by kernel_rfl) (by kernel_rfl) (by kernel_rfl) (by kernel_rfl) (fun _ _ _ h => h) (by kernel_rfl) ?_ (by assumption) ?_
          rotate_left 1
          · (intro wS hSw; (try dsimp only at hSw); go_simp; try with_reducible rfl)
          try simp only [Act.put, List.setIfInBounds_toArray, List.set_cons_zero, List.set_cons_succ]
          refine rg_take (i := 8) (d := some 48) (l := #[true, true, true, true, true, true, true, true, true, false, false, false]) (fuel := 3) (v := ?_) rfl (by kernel_rfl) (by kernel_rfl) (by kernel_rfl) (by kernel_rfl) (by kernel_rfl) (fun _ _ _ h => h) (by kernel_rfl) ?_ (by assumption) ?_
          rotate_left 1
          · (intro wS hSw; (try dsimp only at hSw); go_simp; try with_reducible rfl)
          try simp only [Act.put, List.setIfInBounds_toArray, List.set_cons_zero, List.set_cons_succ]
          refine rg_take (i := 9) (d := some 49) (l := #[true, true, true, true, true, true, true, true, true, true, false, false]) (fuel := 2) (v := ?_) rfl (by kernel_rfl) (by kernel_rfl) (by kernel_rfl) (by kernel_rfl) (by kernel_rfl) (fun _ _ _ h => h) (by kernel_rfl) ?_ (by assumption) ?_
          rotate_left 1
          · (intro wS hSw; (try dsimp only at hSw); go_simp; try with_reducible rfl)
          try simp only [Act.put, List.setIfInBounds_toArray, List.set_cons_zero, List.set_cons_succ]
          refine rg_take (i := 10) (d := some 50) (l := #[true, true, true, true, true, true, true, true, true, true, true, false]) (fuel := 1) (v := ?_) rfl (by kernel_rfl) (by kernel_rfl) (by kernel_rfl) (by kernel_rfl) (by kernel_rfl) (fun _ _ _ h => h) (by kernel_rfl) ?_ (by assumption) ?_
          rotate_left 1
          · (intro wS hSw; (try dsimp only at hSw); go_simp; try with_reducible rfl)
          try simp only [Act.put, List.setIfInBounds_toArray, List.set_cons_zero, List.set_cons_succ]
          refine rg_next (i := 11) (l := #[true, true, true, true, true, true, true, true, true, true, true, true]) (fuel := 0) (by kernel_rfl) rfl (by kernel_rfl) (by kernel_rfl) (fun K hK => ?_)
          go_simp
          (go_at_call 48)
          refine (rmset_any (R1.out.kp (Kp.refl [] _).drew (by simp)) a u a0 a1).mono ?_
          rintro e w2 ⟨rfl, y3, y4⟩
          replace y4 : Kp [r] w1 w2 := ((Kp.refl [r] w1).drew).trans y4 (by simp)
          have X := Lib.hid (HI.out.two gg Y1.out Y2.out y3 y4)
          obtain ⟨ad2, e9, -, -, q1, q2⟩ := fkCells3 (FRow.keep HQ.out X.out.1.2.2) k hlt
          obtain rfl := Option.some.inj e9
          rw [E1.out] at q1
          rw [E2.out] at q2
          clear y3 y4 q1' q2'
          first | (refine hK.out _ _ ?_ (fun hHeld => ?_)) | (go_wp2_with fail; refine hK.out _ _ ?_ (fun hHeld => ?_))
          · (try dsimp only); exact ⟨q1, q2⟩
          clear hK K
          try simp only [Act.put, List.setIfInBounds_toArray, List.set_cons_zero, List.set_cons_succ]
          refine wpAnyH_done (by kernel_rfl) ?_ _
          clear hHeld
          go_wp2_with fail
          go_meet
          case rel => exact ⟨rfl, ⟨_, _, X.out.1⟩, HK.out.trans X.out.2 (by simp)⟩
        · obtain ⟨v, hv⟩ : ∃ v, getI z l a = v := ⟨_, rfl⟩
          have HV := Lib.hid hv
          have nv : (v != v) = false := by simp
          clear hv
          go_upto_region 11 with fail
          refine rg_begin (S := fun w' => w'.cell? ⟨(ad.add (k * 3)).block, (ad.add (k * 3)).off + 1, none⟩ = some (.int .u8 a)) 15 #[false, false, false, false, false, false, false, false, false, false, false, false, false, false, false] (by kernel_rfl) (by kernel_rfl) (by kernel_rfl) ?_ (fun hHeld => ?_)
          · exact q1
          refine rg_take (i := 0) (d := some 54) (l := #[true, false, false, false, false, false, false, false, false, false, false, false, false, false, false]) (fuel := 14) (v := ?_) rfl (by kernel_rfl) (by kernel_rfl) (by kernel_rfl) (by kernel_rfl) (by kernel_rfl) (fun _ _ _ h => h) (by kernel_rfl) ?_ (by assumption) ?_
          rotate_left 1
          · (intro wS hSw; (try dsimp only at hSw); go_simp; try with_reducible rfl)
          try simp only [Act.put, List.setIfInBounds_toArray, List.set_cons_zero, List.set_cons_succ]
          refine rg_take (i := 1) (d := some 55) (l := #[true, true, false, false, false, false, false, false, false, false, false, false, false, false, false]) (fuel := 13) (v := ?_) rfl (by kernel_rfl) (by kernel_rfl) (by kernel_rfl) (by kernel_rfl) (by kernel_rfl) (fun _ _ _ h => h) (by kernel_rfl) ?_ (by assumption) ?_
          rotate_left 1
          · (intro wS hSw; (try dsimp only at hSw); go_simp; try with_reducible rfl)
          try simp only [Act.put, List.setIfInBounds_toArray, List.set_cons_zero, List.set_cons_succ]
          refine rg_take (i := 2) (d := some 56) (l := #[true, true, true, false, false, false, false, false, false, false, false, false, false, false, false]) (fuel := 12) (v := ?_) rfl (by kernel_rfl) (by kernel_rfl) (by kernel_rfl) (by kernel_rfl) (by kernel_rfl) (fun _ _ _ h => h) (by kernel_rfl) ?_ (by assumption) ?_
          rotate_left 1
          · (intro wS hSw; (try dsimp only at hSw); go_simp; try with_reducible rfl)
          try simp only [Act.put, List.setIfInBounds_toArray, List.set_cons_zero, List.set_cons_succ]
          refine rg_take (i := 3) (d := some 57) (l := #[true, true, true, true, false, false, false, false, false, false, false, false, false, false, false]) (fuel := 11) (v := ?_) rfl (by kernel_rfl) (by kernel_rfl) (by kernel_rfl) (by kernel_rfl) (by kernel_rfl) (fun _ _ _ h => h) (by kernel_rfl) ?_ (by assumption) ?_
          rotate_left 1
          · (intro wS hSw; (try dsimp only at hSw); go_simp; try with_reducible rfl)
          try simp only [Act.put, List.setIfInBounds_toArray, List.set_cons_zero, List.set_cons_succ]
          refine rg_take (i := 4) (d := some 58) (l := #[true, true, true, true, true, false, false, false, false, false, false, false, false, false, false]) (fuel := 10) (v := ?_) rfl (by kernel_rfl) (by kernel_rfl) (by kernel_rfl) (by kernel_rfl) (by kernel_rfl) (fun _ _ _ h => h) (by kernel_rfl) ?_ (by assumption) ?_
          rotate_left 1
          · (intro wS hSw; (try dsimp only at hSw); go_simp; try with_reducible rfl)
          try simp only [Act.put, List.setIfInBounds_toArray, List.set_cons_zero, List.set_cons_succ]
          refine rg_take (i := 5) (d := some 59) (l := #[true, true, true, true, true, true, false, false, false, false, false, false, false, false, false]) (fuel := 9) (v := ?_) rfl (by kernel_rfl) (by kernel_rfl) (by kernel_rfl) (by kernel_rfl) (by kernel_rfl) (fun _ _ _ h => h) (by kernel_rfl) ?_ (by assumption) ?_
          rotate_left 1
          · (intro wS hSw; (try dsimp only at hSw); go_simp; try with_reducible rfl)
          try simp only [Act.put, List.setIfInBounds_toArray, List.set_cons_zero, List.set_cons_succ]
          refine rg_take (i := 7) (d := some 61) (l := #[true, true, true, true, true, true, false, true, false, false, false, false, false, false, false]) (fuel := 8) (v := ?_) rfl (by kernel_rfl) (by kernel_rfl) (by kernel_rfl) (by kernel_rfl) (by kernel_rfl) (fun _ _ _ h => h) (by kernel_rfl) ?_ (by assumption) ?_
          rotate_left 1
          · (intro wS hSw; (try dsimp only at hSw); go_simp; try with_reducible rfl)
          try simp only [Act.put, List.setIfInBounds_toArray, List.set_cons_zero, List.set_cons_succ]
          refine rg_take (i := 8) (d := some 62) (l := #[true, true, true, true, true, true, false, true, true, false, false, false, false, false, false]) (fuel := 7) (v := ?_) rfl (by kernel_rfl) (by kernel_rfl) (by kernel_rfl) (by kernel_rfl) (by kernel_rfl) (fun _ _ _ h => h) (by kernel_rfl) ?_ (by assumption) ?_
          rotate_left 1
          · (intro wS hSw; (try dsimp only at hSw); go_simp; try with_reducible rfl)
          try simp only [Act.put, List.setIfInBounds_toArray, List.set_cons_zero, List.set_cons_succ]
          refine rg_take (i := 9) (d := some 63) (l := #[true, true, true, true, true, true, false, true, true, true, false, false, false, false, false]) (fuel := 6) (v := ?_) rfl (by kernel_rfl) (by kernel_rfl) (by kernel_rfl) (by kernel_rfl) (by kernel_rfl) (fun _ _ _ h => h) (by kernel_rfl) ?_ (by assumption) ?_
          rotate_left 1
          · (intro wS hSw; (try dsimp only at hSw); go_simp; try with_reducible rfl)
          try simp only [Act.put, List.setIfInBounds_toArray, List.set_cons_zero, List.set_cons_succ]
          refine rg_take (i := 10) (d := some 64) (l := #[true, true, true, true, true, true, false, true, true, true, true, false, false, false, false]) (fuel := 5) (v := ?_) rfl (by kernel_rfl) (by kernel_rfl) (by kernel_rfl) (by kernel_rfl) (by kernel_rfl) (fun _ _ _ h => h) (by kernel_rfl) ?_ (by assumption) ?_
          rotate_left 1
          · (intro wS hSw; (try dsimp only at hSw); go_simp; try with_reducible rfl)
          try simp only [Act.put, List.setIfInBounds_toArray, List.set_cons_zero, List.set_cons_succ]
          refine rg_take (i := 11) (d := some 65) (l := #[true, true, true, true, true, true, false, true, true, true, true, true, false, false, false]) (fuel := 4) (v := ?_) rfl (by kernel_rfl) (by kernel_rfl) (by kernel_rfl) (by kernel_rfl) (by kernel_rfl) (fun _ _ _ h => h) (by kernel_rfl) ?_ (by assumption) ?_
          rotate_left 1
          · (intro wS hSw; (try dsimp only at hSw); go_simp; try with_reducible rfl)
          try simp only [Act.put, List.setIfInBounds_toArray, List.set_cons_zero, List.set_cons_succ]
          refine rg_take (i := 12) (d := some 66) (l := #[true, true, true, true, true, true, false, true, true, true, true, true, true, false, false]) (fuel := 3) (v := ?_) rfl (by kernel_rfl) (by kernel_rfl) (by kernel_rfl) (by kernel_rfl) (by kernel_rfl) (fun _ _ _ h => h) (by kernel_rfl) ?_ (by assumption) ?_
          rotate_left 1
          · (intro wS hSw; (try dsimp only at hSw); go_simp; try with_reducible rfl)
          try simp only [Act.put, List.setIfInBounds_toArray, List.set_cons_zero, List.set_cons_succ]
          refine rg_next (i := 6) (l := #[true, true, true, true, true, true, true, true, true, true, true, true, true, false, false]) (fuel := 2) (by kernel_rfl) rfl (by kernel_rfl) (by kernel_rfl) (fun K hK => ?_)
          go_simp
          (go_at_call 42)
          refine (mget_any (HI.out.kp0 (Kp.refl _ _).drew).1 a).mono ?_
          rw [HV.out]
          rintro e w1 ⟨rfl, y1, y2⟩
          replace y2 : Kp [g] wr w1 := ((Kp.refl [g] wr).drew).trans y2 (by simp)
          have R1 := Lib.hid (HI.out.2.1.kp y2 (by simpa using HI.out.ne.symm))
          have Y1 := Lib.hid y1
          have Y2 := Lib.hid y2
          have B1 := Lib.hid (y2.onto HI.out.2.2 HI.out.2.2.size (by simpa using gg.1))
          obtain ⟨ad2, e9, -, -, q1', q2'⟩ := fkCells3 (FRow.keep HQ.out B1.out) k hlt
          obtain rfl := Option.some.inj e9
          rw [E1.out] at q1'
          clear y1 y2 q1 q2 q2'
          first | (refine hK.out _ _ ?_ (fun hHeld => ?_)) | (go_wp2_with fail; refine hK.out _ _ ?_ (fun hHeld => ?_))
          · (try dsimp only); exact q1'
          clear hK K
          try simp only [Act.put, List.setIfInBounds_toArray, List.set_cons_zero, List.set_cons_succ]
          refine rg_next (i := 13) (l := #[true, true, true, true, true, true, true, true, true, true, true, true, true, true, false]) (fuel := 1) (by kernel_rfl) rfl (by kernel_rfl) (by kernel_rfl) (fun K hK => ?_)
          go_simp
          (go_at_call 49)
          refine (rmget_any R1.out a a0 a1).mono ?_
          rw [HV.out]
          rintro e w2 ⟨rfl, y3, y4⟩
          have X := Lib.hid (HI.out.two gg Y1.out Y2.out y3 y4)
          obtain ⟨ad2, e9, -, -, q1, q2⟩ := fkCells3 (FRow.keep HQ.out X.out.1.2.2) k hlt
          obtain rfl := Option.some.inj e9
          rw [E1.out] at q1
          clear y3 y4 q1' q2
          first | (refine hK.out _ _ ?_ (fun hHeld => ?_)) | (go_wp2_with fail; refine hK.out _ _ ?_ (fun hHeld => ?_))
          · (try dsimp only); exact q1
          clear hK K
          try simp only [Act.put, List.setIfInBounds_toArray, List.set_cons_zero, List.set_cons_succ]
          refine rg_take (i := 14) (d := some 68) (l := #[true, true, true, true, true, true, true, true, true, true, true, true, true, true, true]) (fuel := 0) (v := ?_) rfl (by kernel_rfl) (by kernel_rfl) (by kernel_rfl) (by kernel_rfl) (by kernel_rfl) (fun _ _ _ h => h) (by kernel_rfl) ?_ (by assumption) ?_
          rotate_left 1
          · (intro wS hSw; (try dsimp only at hSw); go_simp; try with_reducible rfl)
          try simp only [Act.put, List.setIfInBounds_toArray, List.set_cons_zero, List.set_cons_succ]
          refine wpAnyH_done (by kernel_rfl) ?_ _
          clear hHeld
          go_wp2_with fail
          go_meet
          case rel => exact ⟨rfl, ⟨_, _, X.out.1⟩, HK.out.trans X.out.2 (by simp)⟩
        · go_wp2_with fail
          refine (mreset_any HI.out.1).mono ?_
          rintro e w1 ⟨rfl, y1, y2⟩
          have R1 := Lib.hid (HI.out.2.1.kp y2 (by simpa using HI.out.ne.symm))
          have c7 := R1.out.at_ 7 (by omega)
          have f7 := Blk.frozen R1.out 7
          have Y1 := Lib.hid y1
          have Y2 := Lib.hid y2
          clear y1 y2 q0 q1 q2
          go_wp2_with fail
          have y3 := R1.out.one 7 (by omega) 0
          have y4 : Kp [r] w1 (w1.setCell ⟨r, 7, none⟩ (.int .u8 0)) := (Kp.refl [r] w1).setCell (p := ⟨r, 7, none⟩) (.inl (by simp)) _
          have y5 : RM (w1.setCell ⟨r, 7, none⟩ (.int .u8 0)) r (mvd z 128 0) l := by unfold RM; rw [mvd_reset]; exact y3
          have X := HI.out.two gg Y1.out Y2.out y5 y4
          go_meet
          case rel => exact ⟨rfl, ⟨_, _, X.1⟩, HK.out.trans X.2 (by simp)⟩
      case rest =>
        obtain ⟨rfl, ⟨z2, l2, hI2⟩, hK2⟩ := hcut
        have hE : ∀ W : World, (Op.equalIn 10000 22 (.agg #[.int .u8 (z2 0), .int .u8 (z2 1), .int .u8 (z2 2), .int .u8 (z2 3), .int .u8 (z2 4), .int .u8 (z2 5), .int .u8 (z2 6), .int .u8 (z2 7)]) (.agg #[.int .u8 (z2 0), .int .u8 (z2 1), .int .u8 (z2 2), .int .u8 (z2 3), .int .u8 (z2 4), .int .u8 (z2 5), .int .u8 (z2 6), .int .u8 (z2 7)])).run Tryd.prog W = .ok true W := fun W => by
          have h := bank_eq z2 z2 W
          rw [show ((List.range 8).all fun i => z2 i == z2 i) = true by simp] at h
          exact h
        have c0 := hI2.2.1.cell 0
        have c1 := hI2.2.1.cell 1
        have c2 := hI2.2.1.cell 2
        have c3 := hI2.2.1.cell 3
        have c4 := hI2.2.1.cell 4
        have c5 := hI2.2.1.cell 5
        have c6 := hI2.2.1.cell 6
        have c7 := hI2.2.1.cell 7
        have c8 := hI2.2.1.cell 8
        have n1 : (l2 != l2) = false := by simp
        have HI2 := Lib.hid hI2
        have HK2 := Lib.hid hK2
        clear hI2 hK2 q0 q1 q2 HI HK
        go_upto_region 13 with fail
        refine rg_begin (S := fun w' => w'.cell? ⟨r, 0, none⟩ = some (.int .u8 (z2 0)) ∧ w'.cell? ⟨r, 1, none⟩ = some (.int .u8 (z2 1)) ∧ w'.cell? ⟨r, 2, none⟩ = some (.int .u8 (z2 2)) ∧ w'.cell? ⟨r, 3, none⟩ = some (.int .u8 (z2 3)) ∧ w'.cell? ⟨r, 4, none⟩ = some (.int .u8 (z2 4)) ∧ w'.cell? ⟨r, 5, none⟩ = some (.int .u8 (z2 5)) ∧ w'.cell? ⟨r, 6, none⟩ = some (.int .u8 (z2 6)) ∧ w'.cell? ⟨r, 7, none⟩ = some (.int .u8 (z2 7)) ∧ w'.cell? ⟨r, 8, none⟩ = some (.int .u8 l2)) 16 #[false, false, false, false, false, false, false, false, false, false, false, false, false, false, false, false] (by kernel_rfl) (by kernel_rfl) (by kernel_rfl) ?_ (fun hHeld => ?_)
        · exact ⟨c0, c1, c2, c3, c4, c5, c6, c7, c8⟩
        refine rg_take (i := 0) (d := some 69) (l := #[true, false, false, false, false, false, false, false, false, false, false, false, false, false, false, false]) (fuel := 15) (v := ?_) rfl (by kernel_rfl) (by kernel_rfl) (by kernel_rfl) (by kernel_rfl) (by kernel_rfl) (fun _ _ _ h => h) (by kernel_rfl) ?_ (by assumption) ?_
        rotate_left 1
        · (intro wS hSw; (try dsimp only at hSw); go_simp; try with_reducible rfl)
        try simp only [Act.put, List.setIfInBounds_toArray, List.set_cons_zero, List.set_cons_succ]
        refine rg_take (i := 2) (d := some 71) (l := #[true, false, true, false, false, false, false, false, false, false, false, false, false, false, false, false]) (fuel := 14) (v := ?_) rfl (by kernel_rfl) (by kernel_rfl) (by kernel_rfl) (by kernel_rfl) (by kernel_rfl) (fun _ _ _ h => h) (by kernel_rfl) ?_ (by assumption) ?_
        rotate_left 1
        · (intro wS hSw; (try dsimp only at hSw); go_simp; try with_reducible rfl)
        try simp only [Act.put, List.setIfInBounds_toArray, List.set_cons_zero, List.set_cons_succ]
        refine rg_take (i := 3) (d := some 72) (l := #[true, false, true, true, false, false, false, false, false, false, false, false, false, false, false, false]) (fuel := 13) (v := ?_) rfl (by kernel_rfl) (by kernel_rfl) (by kernel_rfl) (by kernel_rfl) (by kernel_rfl) (fun _ _ _ h => h) (by kernel_rfl) ?_ (by assumption) ?_
        rotate_left 1
        · (intro wS hSw; (try dsimp only at hSw); go_simp; try with_reducible rfl)
        try simp only [Act.put, List.setIfInBounds_toArray, List.set_cons_zero, List.set_cons_succ]
        refine rg_take (i := 4) (d := some 73) (l := #[true, false, true, true, true, false, false, false, false, false, false, false, false, false, false, false]) (fuel := 12) (v := ?_) rfl (by kernel_rfl) (by kernel_rfl) (by kernel_rfl) (by kernel_rfl) (by kernel_rfl) (fun _ _ _ h => h) (by kernel_rfl) ?_ (by assumption) ?_
        rotate_left 1
        · (intro wS hSw; (try dsimp only at hSw); go_simp; try with_reducible rfl)
        try simp only [Act.put, List.setIfInBounds_toArray, List.set_cons_zero, List.set_cons_succ]
        refine rg_take (i := 5) (d := some 74) (l := #[true, false, true, true, true, true, false, false, false, false, false, false, false, false, false, false]) (fuel := 11) (v := ?_) rfl (by kernel_rfl) (by kernel_rfl) (by kernel_rfl) (by kernel_rfl) (by kernel_rfl) (fun _ _ _ h => h) (by kernel_rfl) ?_ (by assumption) ?_
        rotate_left 1
        · (intro wS hSw; (try dsimp only at hSw); go_simp; try with_reducible rfl)
        try simp only [Act.put, List.setIfInBounds_toArray, List.set_cons_zero, List.set_cons_succ]
        refine rg_next (i := 1) (l := #[true, true, true, true, true, true, false, false, false, false, false, false, false, false, false, false]) (fuel := 10) (by kernel_rfl) rfl (by kernel_rfl) (by kernel_rfl) (fun K hK => ?_)
        go_simp
        (go_at_call 12)
        refine (banks_any (HI2.out.kp0 (Kp.refl _ _).drew).1).mono ?_
        rw [show p8 z2 = #[.int .u8 (z2 0), .int .u8 (z2 1), .int .u8 (z2 2), .int .u8 (z2 3), .int .u8 (z2 4), .int .u8 (z2 5), .int .u8 (z2 6), .int .u8 (z2 7)] from rfl]
        rintro e w3 ⟨rfl, b3⟩
        have HI3 := Lib.hid ((HI2.out.kp0 (Kp.refl _ _).drew).on b3)
        have HK3 := Lib.hid (HK2.out.trans (((Kp.refl [] _).drew).trans (Kp.of_below (L := ([] : List Nat)) b3) (by simp)) (by simp))
        clear b3 c0 c1 c2 c3 c4 c5 c6 c7 c8
        have R3 := HI3.out.2.1
        first | (refine hK.out _ _ ?_ (fun hHeld => ?_)) | (go_wp2_with fail; refine hK.out _ _ ?_ (fun hHeld => ?_))
        · (try dsimp only); exact ⟨R3.cell 0, R3.cell 1, R3.cell 2, R3.cell 3, R3.cell 4, R3.cell 5, R3.cell 6, R3.cell 7, R3.cell 8⟩
        clear hK K
        try simp only [Act.put, List.setIfInBounds_toArray, List.set_cons_zero, List.set_cons_succ]
        refine rg_take (i := 6) (d := some 75) (l := #[true, true, true, true, true, true, true, false, false, false, false, false, false, false, false, false]) (fuel := 9) (v := ?_) rfl (by kernel_rfl) (by kernel_rfl) (by kernel_rfl) (by kernel_rfl) (by kernel_rfl) (fun _ _ _ h => h) (by kernel_rfl) ?_ (by assumption) ?_
        rotate_left 1
        · (intro wS hSw; (try dsimp only at hSw); go_simp; try with_reducible rfl)
        try simp only [Act.put, List.setIfInBounds_toArray, List.set_cons_zero, List.set_cons_succ]
        refine rg_take (i := 7) (d := some 76) (l := #[true, true, true, true, true, true, true, true, false, false, false, false, false, false, false, false]) (fuel := 8) (v := ?_) rfl (by kernel_rfl) (by kernel_rfl) (by kernel_rfl) (by kernel_rfl) (by kernel_rfl) (fun _ _ _ h => h) (by kernel_rfl) ?_ (by assumption) ?_
        rotate_left 1
        · (intro wS hSw; (try dsimp only at hSw); go_simp; try with_reducible rfl)
        try simp only [Act.put, List.setIfInBounds_toArray, List.set_cons_zero, List.set_cons_succ]
        refine rg_take (i := 8) (d := some 77) (l := #[true, true, true, true, true, true, true, true, true, false, false, false, false, false, false, false]) (fuel := 7) (v := ?_) rfl (by kernel_rfl) (by kernel_rfl) (by kernel_rfl) (by kernel_rfl) (by kernel_rfl) (fun _ _ _ h => h) (by kernel_rfl) ?_ (by assumption) ?_
        rotate_left 1
        · (intro wS hSw; (try dsimp only at hSw); go_simp; try with_reducible rfl)
        try simp only [Act.put, List.setIfInBounds_toArray, List.set_cons_zero, List.set_cons_succ]
        refine rg_take (i := 10) (d := some 79) (l := #[true, true, true, true, true, true, true, true, true, false, true, false, false, false, false, false]) (fuel := 6) (v := ?_) rfl (by kernel_rfl) (by kernel_rfl) (by kernel_rfl) (by kernel_rfl) (by kernel_rfl) (fun _ _ _ h => h) (by kernel_rfl) ?_ (by assumption) ?_
        rotate_left 1
        · (intro wS hSw; (try dsimp only at hSw); go_simp; try with_reducible rfl)
        try simp only [Act.put, List.setIfInBounds_toArray, List.set_cons_zero, List.set_cons_succ]
        refine rg_take (i := 11) (d := some 80) (l := #[true, true, true, true, true, true, true, true, true, false, true, true, false, false, false, false]) (fuel := 5) (v := ?_) rfl (by kernel_rfl) (by kernel_rfl) (by kernel_rfl) (by kernel_rfl) (by kernel_rfl) (fun _ _ _ h => h) (by kernel_rfl) ?_ (by assumption) ?_
        rotate_left 1
        · (intro wS hSw; (try dsimp only at hSw); go_simp; try with_reducible rfl)
        try simp only [Act.put, List.setIfInBounds_toArray, List.set_cons_zero, List.set_cons_succ]
        refine rg_take (i := 12) (d := some 81) (l := #[true, true, true, true, true, true, true, true, true, false, true, true, true, false, false, false]) (fuel := 4) (v := ?_) rfl (by kernel_rfl) (by kernel_rfl) (by kernel_rfl) (by kernel_rfl) (by kernel_rfl) (fun _ _ _ h => h) (by kernel_rfl) ?_ (by assumption) ?_
        rotate_left 1
        · (intro wS hSw; (try dsimp only at hSw); go_simp; try with_reducible rfl)
        try simp only [Act.put, List.setIfInBounds_toArray, List.set_cons_zero, List.set_cons_succ]
        refine rg_take (i := 13) (d := some 82) (l := #[true, true, true, true, true, true, true, true, true, false, true, true, true, true, false, false]) (fuel := 3) (v := ?_) rfl (by kernel_rfl) (by kernel_rfl) (by kernel_rfl) (by kernel_rfl) (by kernel_rfl) (fun _ _ _ h => h) (by kernel_rfl) ?_ (by assumption) ?_
        rotate_left 1
        · (intro wS hSw; (try dsimp only at hSw); go_simp; try with_reducible rfl)
        try simp only [Act.put, List.setIfInBounds_toArray, List.set_cons_zero, List.set_cons_succ]
        refine rg_next (i := 9) (l := #[true, true, true, true, true, true, true, true, true, true, true, true, true, true, false, false]) (fuel := 2) (by kernel_rfl) rfl (by kernel_rfl) (by kernel_rfl) (fun K hK => ?_)
        go_simp
        (go_at_call 13)
        refine (last_any HI3.out.1).mono ?_
        rintro e w4 ⟨rfl, rfl⟩
        first | (refine hK.out _ _ ?_ (fun hHeld => ?_)) | (go_wp2_with fail; refine hK.out _ _ ?_ (fun hHeld => ?_))
        · (try dsimp only); exact ⟨R3.cell 0, R3.cell 1, R3.cell 2, R3.cell 3, R3.cell 4, R3.cell 5, R3.cell 6, R3.cell 7, R3.cell 8⟩
        clear hK K
        try simp only [Act.put, List.setIfInBounds_toArray, List.set_cons_zero, List.set_cons_succ]
        refine rg_take (i := 14) (d := some 83) (l := #[true, true, true, true, true, true, true, true, true, true, true, true, true, true, true, false]) (fuel := 1) (v := ?_) rfl (by kernel_rfl) (by kernel_rfl) (by kernel_rfl) (by kernel_rfl) (by kernel_rfl) (fun _ _ _ h => h) (by kernel_rfl) ?_ (by assumption) ?_
        rotate_left 1
        · (intro wS hSw; (try dsimp only at hSw); go_simp; try with_reducible rfl)
        try simp only [Act.put, List.setIfInBounds_toArray, List.set_cons_zero, List.set_cons_succ]
        refine rg_take (i := 15) (d := some 84) (l := #[true, true, true, true, true, true, true, true, true, true, true, true, true, true, true, true]) (fuel := 0) (v := ?_) rfl (by kernel_rfl) (by kernel_rfl) (by kernel_rfl) (by kernel_rfl) (by kernel_rfl) (fun _ _ _ h => h) (by kernel_rfl) ?_ (by assumption) ?_
        rotate_left 1
        · (intro wS hSw; (try dsimp only at hSw); go_simp; try with_reducible rfl)
        try simp only [Act.put, List.setIfInBounds_toArray, List.set_cons_zero, List.set_cons_succ]
        refine wpAnyH_done (by kernel_rfl) ?_ _
        clear hHeld
        go_wp2_with fail
        go_roundw
        case rel => exact ⟨k + 1, by omega, by go_num, ⟨_, _, HI3.out⟩, HK3.out⟩
        case measure => simp [intOf]; omega
    · obtain rfl : k = m := by omega
      clear hI hK
      go_wp2_with fail
      go_ret
      exact ⟨rfl, ⟨z, l, HI.out⟩, HK.out⟩
end Go.Proofs.YtccimkmlbcgekaaDoor
