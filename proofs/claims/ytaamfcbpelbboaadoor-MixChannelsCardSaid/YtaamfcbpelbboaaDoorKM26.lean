/-
  Texts of these proofs, one behind the other: Wav5, Wav6.
-/
import Derived.Test.YtaamfcbpelbboaaDoorKM13
import Derived.Test.YtaamfcbpelbboaaDoorKM25
import Derived.Test.YtaamfcbpelbboaaDoorKM07
import Derived.Deep.Cut
import Derived.Deep.CutBlock
namespace Go.Proofs.YtaamfcbpelbboaaDoor
open Go.RowKit
set_option linter.unusedVariables false
set_option linter.unusedSimpArgs false
set_option maxRecDepth 100000
def rchV (n : Nat) (x : Cw) (i : Nat) : Value :=
  if i = 0 then .int .i64 x.fq else if i = 1 then .int .i64 x.pl else if i = 2 then .int .i64 x.bd else if i = 3 then .int .u8 x.ct else if i = 4 then .int .u8 x.bl else if i = 5 then .int .u8 x.td
  else if i < 38 then .int .u8 (x.wv (i - 6))
  else if i = 38 then .bool x.ns else if i = 39 then .pointer (some ⟨n, 0, none⟩) else .int .i64 x.left
def rchC (n : Nat) (x : Cw) : Array Value := ((List.range 41).map (rchV n x)).toArray
theorem rchC_size (n : Nat) (x : Cw) : (rchC n x).size = 41 := by simp [rchC]
theorem rchC_at (n : Nat) (x : Cw) (i : Nat) (h : i < 41) : (rchC n x)[i]? = some (rchV n x i) := by simp [rchC, h]
theorem rchC_set {n : Nat} {x y : Cw} (i : Nat) (v : Value) (h : ∀ j, j < 41 → rchV n y j = if j = i then v else rchV n x j) : (rchC n x).setIfInBounds i v = rchC n y := by
  apply Array.ext_getElem?
  intro j
  by_cases hj : j < 41
  · rw [rchC_at n y j hj, h j hj]
    by_cases e : i = j
    · subst e
      rw [Array.getElem?_setIfInBounds_self_of_lt (by rw [rchC_size]; exact hj), if_pos rfl]
    · rw [Array.getElem?_setIfInBounds_ne e, rchC_at n x j hj, if_neg (fun z => e z.symm)]
  · rw [Array.getElem?_eq_none (by rw [Array.size_setIfInBounds, rchC_size]; omega), Array.getElem?_eq_none (by rw [rchC_size]; omega)]
/-- The reference's channel at r, its noise at n. -/
def RCW (w : World) (r n : Nat) (x : Cw) : Prop := Blk w r 77 (rchC n x) ∧ RNZ w n x.nz ∧ x.ok
def RcR (r n : Nat) (y : Cw) (w : World) (e : Ending) (w' : World) : Prop := e = .returned (.tuple #[]) ∧ RCW w' r n y ∧ Kp [r, n] w w'
section
variable {w w' : World} {r n : Nat} {x y : Cw} {L : List Nat}
theorem RCW.kp (h : RCW w r n x) (k : Kp L w w') (hL : r ∉ L ∧ n ∉ L) : RCW w' r n x := ⟨h.1.kp k hL.1, h.2.1.kp k hL.2, h.2.2⟩
theorem RCW.keep (h : RCW w r n x) (k : Below w.heap.size w w') : RCW w' r n x := h.kp (Kp.of_below (L := []) k) (by simp)
theorem RCW.kp0 (h : RCW w r n x) (k : Kp [] w w') : RCW w' r n x := h.kp k (by simp)
theorem RCW.ne (h : RCW w r n x) : r ≠ n := h.1.ne_ h.2.1.1 (by decide)
theorem RCW.cell (h : RCW w r n x) (i : Nat) (hi : i < 41) : w.cell? ⟨r, i, none⟩ = some (rchV n x i) := by rw [h.1.cell, rchC_at n x i hi]
theorem RCW.wave (h : RCW w r n x) (k : Nat) (hk : k < 32) : w.cell? ⟨r, 6 + k, none⟩ = some (.int .u8 (x.wv k)) := by
  rw [h.cell (6 + k) (by omega)]
  unfold rchV
  rw [if_neg (by omega), if_neg (by omega), if_neg (by omega), if_neg (by omega), if_neg (by omega), if_neg (by omega), if_pos (by omega), show 6 + k - 6 = k by omega]
theorem RCW.range (h : RCW w r n x) : w.rangeAt r 6 (intsOf .u8 x.wv 32) := fun j v hv => by
  have hj : j < 32 := by
    by_cases hj : j < 32
    · exact hj
    · rw [List.getElem?_eq_none (by rw [intsOf_len]; omega)] at hv; cases hv
  rw [intsOf_at .u8 x.wv 32 j hj] at hv
  cases hv
  exact h.wave j hj
theorem RCW.put (h : RCW w r n x) (i : Nat) (v : Value) (e : ∀ j, j < 41 → rchV n y j = if j = i then v else rchV n x j) (hy : y.ok) (hn : y.nz = x.nz) : RCW (w.setCell ⟨r, i, none⟩ v) r n y ∧ Kp [r] w (w.setCell ⟨r, i, none⟩ v) := by
  have k : Kp [r] w (w.setCell ⟨r, i, none⟩ v) := (Kp.refl _ _).setCell (.inl (by simp)) _
  refine ⟨⟨?_, by rw [hn]; exact h.2.1.kp k (by simpa using h.ne.symm), hy⟩, k⟩
  rw [← rchC_set i v e]
  exact h.1.set_ i v
theorem lvl_cases {x : Cw} (h : x.ok) : x.on = decide (128 ≤ x.ct) ∧ x.tell = decide (x.ct / 64 % 2 = 1) := by
  obtain ⟨_, _, _, _, _, ⟨a0, a1⟩, _⟩ := h
  exact ⟨bit7_eq a0 a1, bit6_eq a0 a1⟩
theorem rclevel_any (h : RCW w r n x) : Calls Tryd.prog 40 #[.pointer (some ⟨r, 0, none⟩)] w fun e w' => e = .returned (.int .u8 x.lvl) ∧ Below w.heap.size w w' := by
  have HN := Lib.hid h.2.1
  obtain ⟨l1, l2⟩ := lvl_cases h.2.2
  obtain ⟨_, a1, _, _, _, ⟨t0, t1⟩, _⟩ := h.2.2
  have i0 : (0 : Int) ≤ (x.pl : Int) := by omega
  have i1 : (x.pl : Int) < 32 := by omega
  have c1 : w.cell? ⟨r, 1, none⟩ = some (.int .i64 x.pl) := h.cell 1 (by decide)
  have c3 : w.cell? ⟨r, 3, none⟩ = some (.int .u8 x.ct) := h.cell 3 (by decide)
  have c5 : w.cell? ⟨r, 5, none⟩ = some (.int .u8 x.td) := h.cell 5 (by decide)
  have c38 : w.cell? ⟨r, 38, none⟩ = some (.bool x.ns) := h.cell 38 (by decide)
  have c39 : w.cell? ⟨r, 39, none⟩ = some (.pointer (some ⟨n, 0, none⟩)) := h.cell 39 (by decide)
  have cw : w.cell? ⟨r, 6 + x.pl, none⟩ = some (.int .u8 (x.wv x.pl)) := h.wave x.pl a1
  clear h
  by_cases h1 : x.ct < 128
  · have e : x.lvl = 0 := by unfold Cw.lvl; rw [if_pos (by rw [l1]; exact decide_eq_false (by omega))]
    rw [e]
    clear e l1 l2 c1 c5 c38 c39 cw
    go_enter Tryd.func40, Tryd.ntmps40
    go_wp2
    go_ret
    exact ⟨rfl, Below.refl _ _⟩
  have ho : ¬ x.on = false := by rw [l1, decide_eq_true (by omega)]; simp
  by_cases h3 : x.ct / 64 = 3
  · have e : x.lvl = x.td := by unfold Cw.lvl; rw [if_neg ho, if_pos (by rw [l2]; exact decide_eq_true (by omega))]
    rw [e]
    clear e l1 l2 c1 c38 c39 cw ho
    go_enter Tryd.func40, Tryd.ntmps40
    go_wp2
    go_ret
    exact ⟨rfl, Below.refl _ _⟩
  have ht : ¬ x.tell = true := by rw [l2, decide_eq_false (by omega)]; simp
  have j3 : (x.ct / 64 == 3) = false := by simpa using h3
  cases hn : x.ns with
  | true =>
    have e : x.lvl = lvN x.nz.st := by unfold Cw.lvl; rw [if_neg ho, if_neg ht, if_pos hn]
    rw [hn] at c38
    rw [e]
    clear e l1 l2 c1 c5 cw ho ht hn
    go_enter Tryd.func40, Tryd.ntmps40
    go_wp2_with fail
    refine (rnlevel_any HN.out).mono ?_
    rintro e w' ⟨rfl, rfl⟩
    go_wp2_with fail
    go_ret
    exact ⟨rfl, Below.refl _ _⟩
  | false =>
    have e : x.lvl = x.wv x.pl := by unfold Cw.lvl; rw [if_neg ho, if_neg ht, if_neg (by rw [hn]; simp)]
    rw [hn] at c38
    rw [e]
    clear e l1 l2 c5 c39 ho ht hn
    go_enter Tryd.func40, Tryd.ntmps40
    go_wp2_with fail
    go_region
    all_goals
      go_wp2_with fail
      go_ret
      exact ⟨rfl, (Below.refl _ _).drew⟩
theorem Cw.goW_step {x : Cw} (hr : x.runs = true) {N : Nat} (h : x.left ≤ N) : x.goW N = Cw.goW { x with pl := (x.pl + 1) % 32, left := x.per } (N - x.left) := by
  obtain ⟨e1, e2⟩ := dn_step (p := x.per) h x.per_bd.1
  have hp : Cw.per { x with pl := (x.pl + 1) % 32, left := x.per } = x.per := rfl
  have hr2 : Cw.runs { x with pl := (x.pl + 1) % 32, left := x.per } = x.runs := rfl
  unfold Cw.goW
  rw [hr2, if_pos hr, if_pos hr, hp]
  dsimp only
  rw [e1, e2]
  congr 1
  omega
theorem Cw.goW_lt {x : Cw} (hr : x.runs = true) {N : Nat} (hp : x.pl < 32) (h : N < x.left) : x.goW N = { x with left := x.left - N } := by
  obtain ⟨e1, e2⟩ := dn_lt (p := x.per) h
  unfold Cw.goW
  rw [if_pos hr, e1, e2]
  congr 1
  omega
set_option maxHeartbeats 2000000 in
theorem rcgoW_loop (h : RCW w r n x) (N : Nat) : True := trivial
end
end Go.Proofs.YtaamfcbpelbboaaDoor
namespace Go.Proofs.YtaamfcbpelbboaaDoor
open Go.RowKit
set_option linter.unusedVariables false
set_option linter.unusedSimpArgs false
set_option maxRecDepth 100000
section
variable {w w' : World} {r n : Nat} {x y : Cw}
theorem RCW.noise (h : RCW w r n x) {m : Nz} (h' : RNZ w' n m) (k : Kp [n] w w') : RCW w' r n { x with nz := m } :=
  ⟨h.1.kp k (by simpa using h.ne), h', h'.2, h.2.2.2⟩
end
end Go.Proofs.YtaamfcbpelbboaaDoor
