/-
  The statements' write: bytes are written to work memory, and to a row of bytes.
-/
import Derived.Test.YtfhndajhlpakoaaRam5
import Derived.Test.YtfhndajhlpakoaaG17
import Derived.Test.YtfhndajhlpakoaaG14
import Derived.IntWalk
import Derived.Deep.Cut
import Derived.Deep.CutRange
namespace Go.Proofs.Ytfhndajhlpakoaa
open Go.RowKit
set_option linter.unusedVariables false
set_option linter.unusedSimpArgs false
set_option maxRecDepth 100000
def fws (f : Nat → Int) (ps : Nat → Int × Int) : Nat → Nat → Int
  | 0 => f
  | k + 1 => fw (fws f ps k) (ps k).1 (ps k).2
/-- The first 8192 cells are these bytes. -/
def BAt (C : List Value) (f : Nat → Int) : Prop := ∀ i, i < 8192 → C[i]? = some (.int .u8 (f i))
theorem BAt.row {w : World} {g : Nat} {C : List Value} {f : Nat → Int} (h : Blk w g 5 C.toArray) (hA : BAt C f) (hw : ∀ i, (Lit.int .u8 (f i)).wf = true) : IRow w .u8 (some ⟨g, 0, none⟩) 8192 f := fun i hi =>
  ⟨_, rfl, h.lt, by rw [add_zero_block, h.cell]; simpa using hA i hi, hw i⟩
/-- Memory at g and a row of bytes at gp have the same bytes. -/
def Both (w : World) (g gp : Nat) (mb : Option Nat) (f : Nat → Int) : Prop := RD w g mb f ∧ ∃ C : List Value, Blk w gp 5 C.toArray ∧ BAt C f
def Grew (w : World) (mb mb' : Option Nat) : Prop := mb' = mb ∨ ∃ b', mb' = some b' ∧ w.heap.size ≤ b'
def WrotesR (W : World) (g gp : Nat) (mb : Option Nat) (f : Nat → Int) (ps : Nat → Int × Int) (n : Nat) (w : World) (e : Ending) (w' : World) : Prop :=
  e = .returned (.tuple #[]) ∧ Below W.heap.size W w' ∧ Kp (g :: gp :: mb.toList) w w' ∧ ∃ mb', Both w' g gp mb' (fws f ps n) ∧ Grew w mb mb'
theorem rd_off {w : World} {g x : Nat} {t : TypeId} {cs : Array Value} {mb : Option Nat} {f : Nat → Int} (h : RD w g mb f) (hb : Blk w x t cs) (ht : t ≠ 92) : x ∉ g :: mb.toList := fun hx => by
  rcases List.mem_cons.1 hx with e | hx
  · exact hb.ne_ h.1 ht e
  · have e : mb = some x := by simpa using hx
    have hm := h.2
    rw [e] at hm
    obtain ⟨D, ⟨es, clock, h2, _⟩, _⟩ := hm
    have h1 : w.heap[x]? = _ := hb
    rw [h1] at h2
    cases h2
theorem Grew.trans {w w1 : World} {a b c : Option Nat} (h : Grew w a b) (k : Grew w1 b c) (hs : w.heap.size ≤ w1.heap.size) : Grew w a c := by
  rcases k with k | ⟨y, k, k2⟩
  · rw [k]; exact h
  · exact .inr ⟨y, k, by omega⟩
theorem Grew.off {w : World} {a b : Option Nat} (h : Grew w a b) (x : Nat) (e : b = some x) : a = some x ∨ w.heap.size ≤ x := by
  rcases h with h | ⟨y, h, h2⟩
  · exact .inl (h ▸ e)
  · rw [h] at e; cases e; exact .inr h2
theorem set_arr_ (C : List Value) (i : Nat) (u : Value) : (List.toArray C).setIfInBounds i u = List.toArray (C.set i u) := by simp
theorem BAt.wr {C : List Value} {f : Nat → Int} (h : BAt C f) (a b : Int) (a0 : 0 ≤ a) (a1 : a ≤ 65535) : BAt (C.set (a % 8192).toNat (.int .u8 b)) (fw f a b) := fun i hi => by
  have hl : i < C.length := (List.getElem?_eq_some_iff.1 (h i hi)).1
  rw [List.getElem?_set]
  unfold fw
  by_cases e : (a % 8192).toNat = i
  · rw [if_pos e, if_pos (by omega), if_pos e.symm]
  · rw [if_neg e, h i hi, if_neg (by omega)]
set_option maxHeartbeats 4000000 in
theorem writes_any {W w : World} {g gp n c cp : Nat} {mb : Option Nat} {A : Option Addr} {f : Nat → Int} {ps : Nat → Int × Int} (h : Both w g gp mb f) (hB : Below W.heap.size W w) (R : I2Row W .u16 .u8 A n ps)
    (hg : W.heap.size ≤ g ∧ W.heap.size ≤ gp ∧ (∀ b, mb = some b → W.heap.size ≤ b)) (hn : n ≤ 200) :
    Calls Try.prog 17 #[.pointer (some ⟨g, 0, none⟩), .slice (some ⟨gp, 0, none⟩) 8192 cp, .slice A n c] w (WrotesR W g gp mb f ps n w) := by
  have HH := Lib.hid h
  have HB := Lib.hid hB
  have HR := Lib.hid R
  have HG := Lib.hid hg
  clear h hB R hg
  go_enter Try.func17, Try.ntmps17
  go_wp2_with fail
  go_loopw [6] (fun i wr => ∃ k : Nat, k ≤ n ∧ i = .int .i64 k ∧ Kp (g :: gp :: mb.toList) w wr ∧ ∃ mb', Both wr g gp mb' (fws f ps k) ∧ Grew w mb mb') (fun i _ => n - (intOf i).toNat)
  case atStart => exact ⟨0, Nat.zero_le _, rfl, Kp.refl _ _, mb, HH.out, .inl rfl⟩
  case round =>
    obtain ⟨k, hk, rfl, hK, mb', ⟨hRD, C, hC, hA⟩, hgr⟩ := hrel
    have gs := HG.out
    have hBr := hK.onto HB.out HB.out.size (by
      intro x hx
      rcases List.mem_cons.1 hx with rfl | hx
      · exact gs.1
      · rcases List.mem_cons.1 hx with rfl | hx
        · exact gs.2.1
        · exact gs.2.2 x (by simpa using hx))
    by_cases hlt : k < n
    · obtain ⟨ad, rfl, hl, c0, c1, w0, w1⟩ := (HR.out.keep hBr) k hlt
      obtain ⟨a0, a1⟩ := bounds_u16 w0
      have c1' := cell_next c1
      obtain ⟨a, ha⟩ : ∃ a, (ps k).1 = a := ⟨_, rfl⟩
      obtain ⟨b, hb⟩ : ∃ b, (ps k).2 = b := ⟨_, rfl⟩
      rw [ha] at c0 a0 a1
      rw [hb] at c1'
      have HA := Lib.hid ha
      have HBb := Lib.hid hb
      have QR := Lib.hid hRD
      have QC := Lib.hid hC
      have QA := Lib.hid hA
      have QK := Lib.hid hK
      have QB := Lib.hid hBr
      have QG := Lib.hid hgr
      have HC0 := Lib.hid c0
      have HC1 := Lib.hid c1'
      have i0 : (0 : Int) ≤ (k : Int) := by omega
      have i1 : (k : Int) < n := by omega
      have hl0 : ad.block < W.heap.size := by
        obtain ⟨ad2, e, hl2, _⟩ := HR.out k hlt
        cases e; exact hl2
      have hmb' : ∀ x, mb' = some x → W.heap.size ≤ x := fun x e => by
        rcases QG.out with h | ⟨y, h, h2⟩
        · exact gs.2.2 x (by rw [← h]; exact e)
        · rw [h] at e; cases e; have := HB.out.size; omega
      have NB : Hid (∀ x ∈ g :: mb'.toList, W.heap.size ≤ x) := Lib.hid (by
        intro x hx
        rcases List.mem_cons.1 hx with rfl | hx
        · exact gs.1
        · exact hmb' x (by simpa using hx))
      have NP : Hid (gp ∉ g :: mb'.toList) := Lib.hid (rd_off QR.out QC.out (by decide))
      have NA : Hid (ad.block ∉ g :: mb'.toList) := Lib.hid (fun hx => by have := NB.out _ hx; omega)
      obtain ⟨j, hj⟩ := Int.eq_ofNat_of_zero_le (show 0 ≤ a % 8192 by omega)
      have hj8 : j < 8192 := by omega
      have tm : a.tmod 8192 = j := by rw [Int.tmod_eq_emod_of_nonneg a0]; exact hj
      have tw : IntKind.i64.wrap (j : Int) = j := IntWalk.i64_in _ (by omega)
      have ta : IntKind.i64.wrap a = a := IntWalk.i64_in _ (by omega)
      have j0 : (0 : Int) ≤ (j : Int) := by omega
      have j1 : (j : Int) < 8192 := by omega
      have HJ : Hid ((a % 8192).toNat = j) := Lib.hid (by omega)
      clear ha hb hRD hC hA hK hBr hgr c0 c1 c1' w0 w1 gs hmb'
      go_wp2_with fail
      go_upto_region 3 with fail
      go_cut [6] from 7 to 38 (fun i wx => i = .int .i64 k ∧ ∃ mb2, RD wx g mb2 (fw (fws f ps k) a b) ∧ Kp (g :: mb'.toList) wr wx ∧ Grew wr mb' mb2)
      case first =>
        refine rg_begin (S := fun w' => w'.cell? (ad.add (k * 2)) = some (.int .u16 a) ∧ w'.cell? ⟨(ad.add (k * 2)).block, (ad.add (k * 2)).off + 1, none⟩ = some (.int .u8 b)) 12 #[false, false, false, false, false, false, false, false, false, false, false, false] (by kernel_rfl) (by kernel_rfl) (by kernel_rfl) ?_ (fun hHeld => ?_)
        · exact ⟨HC0.out, HC1.out⟩
        refine rg_take (i := 0) (d := some 13) (l := #[true, false, false, false, false, false, false, false, false, false, false, false]) (fuel := 11) (v := ?_) rfl (by kernel_rfl) (by kernel_rfl) (by kernel_rfl) (by kernel_rfl) (by kernel_rfl) (fun _ _ _ h => h) (by kernel_rfl) ?_ (by assumption) ?_
        rotate_left 1
        · (intro wS hSw; (try dsimp only at hSw); go_simp; try with_reducible rfl)
        try simp only [Act.put, List.setIfInBounds_toArray, List.set_cons_zero, List.set_cons_succ]
        refine rg_take (i := 1) (d := some 14) (l := #[true, true, false, false, false, false, false, false, false, false, false, false]) (fuel := 10) (v := ?_) rfl (by kernel_rfl) (by kernel_rfl) (by kernel_rfl) (by kernel_rfl) (by kernel_rfl) (fun _ _ _ h => h) (by kernel_rfl) ?_ (by assumption) ?_
        rotate_left 1
        · (intro wS hSw; (try dsimp only at hSw); go_simp; try with_reducible rfl)
        try simp only [Act.put, List.setIfInBounds_toArray, List.set_cons_zero, List.set_cons_succ]
        refine rg_take (i := 2) (d := some 15) (l := #[true, true, true, false, false, false, false, false, false, false, false, false]) (fuel := 9) (v := ?_) rfl (by kernel_rfl) (by kernel_rfl) (by kernel_rfl) (by kernel_rfl) (by kernel_rfl) (fun _ _ _ h => h) (by kernel_rfl) ?_ (by assumption) ?_
        rotate_left 1
        · (intro wS hSw; (try dsimp only at hSw); go_simp; try with_reducible rfl)
        try simp only [Act.put, List.setIfInBounds_toArray, List.set_cons_zero, List.set_cons_succ]
        refine rg_take (i := 3) (d := some 16) (l := #[true, true, true, true, false, false, false, false, false, false, false, false]) (fuel := 8) (v := ?_) rfl (by kernel_rfl) (by kernel_rfl) (by kernel_rfl) (by kernel_rfl) (by kernel_rfl) (fun _ _ _ h => h) (by kernel_rfl) ?_ (by assumption) ?_
        rotate_left 1
        · (intro wS hSw; (try dsimp only at hSw); go_simp; try with_reducible rfl)
        try simp only [Act.put, List.setIfInBounds_toArray, List.set_cons_zero, List.set_cons_succ]
        refine rg_take (i := 4) (d := some 17) (l := #[true, true, true, true, true, false, false, false, false, false, false, false]) (fuel := 7) (v := ?_) rfl (by kernel_rfl) (by kernel_rfl) (by kernel_rfl) (by kernel_rfl) (by kernel_rfl) (fun _ _ _ h => h) (by kernel_rfl) ?_ (by assumption) ?_
        rotate_left 1
        · (intro wS hSw; (try dsimp only at hSw); go_simp; try with_reducible rfl)
        try simp only [Act.put, List.setIfInBounds_toArray, List.set_cons_zero, List.set_cons_succ]
        refine rg_take (i := 5) (d := some 18) (l := #[true, true, true, true, true, true, false, false, false, false, false, false]) (fuel := 6) (v := ?_) rfl (by kernel_rfl) (by kernel_rfl) (by kernel_rfl) (by kernel_rfl) (by kernel_rfl) (fun _ _ _ h => h) (by kernel_rfl) ?_ (by assumption) ?_
        rotate_left 1
        · (intro wS hSw; (try dsimp only at hSw); go_simp; try with_reducible rfl)
        try simp only [Act.put, List.setIfInBounds_toArray, List.set_cons_zero, List.set_cons_succ]
        refine rg_take (i := 6) (d := some 19) (l := #[true, true, true, true, true, true, true, false, false, false, false, false]) (fuel := 5) (v := ?_) rfl (by kernel_rfl) (by kernel_rfl) (by kernel_rfl) (by kernel_rfl) (by kernel_rfl) (fun _ _ _ h => h) (by kernel_rfl) ?_ (by assumption) ?_
        rotate_left 1
        · (intro wS hSw; (try dsimp only at hSw); go_simp; try with_reducible rfl)
        try simp only [Act.put, List.setIfInBounds_toArray, List.set_cons_zero, List.set_cons_succ]
        refine rg_take (i := 7) (d := some 20) (l := #[true, true, true, true, true, true, true, true, false, false, false, false]) (fuel := 4) (v := ?_) rfl (by kernel_rfl) (by kernel_rfl) (by kernel_rfl) (by kernel_rfl) (by kernel_rfl) (fun _ _ _ h => h) (by kernel_rfl) ?_ (by assumption) ?_
        rotate_left 1
        · (intro wS hSw; (try dsimp only at hSw); go_simp; try with_reducible rfl)
        try simp only [Act.put, List.setIfInBounds_toArray, List.set_cons_zero, List.set_cons_succ]
        refine rg_take (i := 8) (d := some 21) (l := #[true, true, true, true, true, true, true, true, true, false, false, false]) (fuel := 3) (v := ?_) rfl (by kernel_rfl) (by kernel_rfl) (by kernel_rfl) (by kernel_rfl) (by kernel_rfl) (fun _ _ _ h => h) (by kernel_rfl) ?_ (by assumption) ?_
        rotate_left 1
        · (intro wS hSw; (try dsimp only at hSw); go_simp; try with_reducible rfl)
        try simp only [Act.put, List.setIfInBounds_toArray, List.set_cons_zero, List.set_cons_succ]
        refine rg_take (i := 9) (d := some 22) (l := #[true, true, true, true, true, true, true, true, true, true, false, false]) (fuel := 2) (v := ?_) rfl (by kernel_rfl) (by kernel_rfl) (by kernel_rfl) (by kernel_rfl) (by kernel_rfl) (fun _ _ _ h => h) (by kernel_rfl) ?_ (by assumption) ?_
        rotate_left 1
        · (intro wS hSw; (try dsimp only at hSw); go_simp; try with_reducible rfl)
        try simp only [Act.put, List.setIfInBounds_toArray, List.set_cons_zero, List.set_cons_succ]
        refine rg_take (i := 10) (d := some 23) (l := #[true, true, true, true, true, true, true, true, true, true, true, false]) (fuel := 1) (v := ?_) rfl (by kernel_rfl) (by kernel_rfl) (by kernel_rfl) (by kernel_rfl) (by kernel_rfl) (fun _ _ _ h => h) (by kernel_rfl) ?_ (by assumption) ?_
        rotate_left 1
        · (intro wS hSw; (try dsimp only at hSw); go_simp; try with_reducible rfl)
        try simp only [Act.put, List.setIfInBounds_toArray, List.set_cons_zero, List.set_cons_succ]
        refine rg_next (i := 11) (l := #[true, true, true, true, true, true, true, true, true, true, true, true]) (fuel := 0) (by kernel_rfl) rfl (by kernel_rfl) (by kernel_rfl) (fun K hK => ?_)
        go_simp
        (go_at_call 27)
        refine (rwrite_any (w := wr.drew) (by exact QR.out) a b a0 a1).mono ?_
        rintro e wx ⟨rfl, mb2, x1, x2, x3⟩
        have X1 := Lib.hid x1
        have X2 : Hid (Kp (g :: mb'.toList) wr wx) := Lib.hid ((Kp.refl _ _).drew.trans x2 (fun x hx => .inl hx))
        have X3 : Hid (Grew wr mb' mb2) := Lib.hid x3
        clear x1 x2 x3
        first | (refine hK.out _ _ ?_ (fun hHeld => ?_)) | (go_wp2_with fail; refine hK.out _ _ ?_ (fun hHeld => ?_))
        · (try dsimp only); exact ⟨(X2.out.cell (p := ad.add (k * 2)) (by rw [block_of_add]; exact hl) (by rw [block_of_add]; exact NA.out)).trans HC0.out, (X2.out.cell (p := ⟨(ad.add (k * 2)).block, (ad.add (k * 2)).off + 1, none⟩) (by rw [block_of_add]; exact hl) (by rw [block_of_add]; exact NA.out)).trans HC1.out⟩
        clear hK K
        try simp only [Act.put, List.setIfInBounds_toArray, List.set_cons_zero, List.set_cons_succ]
        refine wpAnyH_done (by kernel_rfl) ?_ _
        go_wp2_with fail
        go_meet
        case rel => exact ⟨rfl, mb2, X1.out, X2.out, X3.out⟩
      case rest =>
        obtain ⟨rfl, mb2, x1, x2, x3⟩ := hcut
        have X1 := Lib.hid x1
        have X2 := Lib.hid x2
        have X3 := Lib.hid x3
        have YC := Lib.hid (QC.out.kp x2 NP.out)
        have d0 : wc.cell? (ad.add (k * 2)) = some (.int .u16 a) := (x2.cell (p := ad.add (k * 2)) (by rw [block_of_add]; exact hl) (by rw [block_of_add]; exact NA.out)).trans HC0.out
        have d1 : wc.cell? ⟨(ad.add (k * 2)).block, (ad.add (k * 2)).off + 1, none⟩ = some (.int .u8 b) := (x2.cell (p := ⟨(ad.add (k * 2)).block, (ad.add (k * 2)).off + 1, none⟩) (by rw [block_of_add]; exact hl) (by rw [block_of_add]; exact NA.out)).trans HC1.out
        have e0 : wc.cell? ⟨gp, j, none⟩ = some (.int .u8 (fws f ps k j)) := by rw [YC.out.cell]; simpa using QA.out j hj8
        have f0 : wc.frozen? ⟨gp, j, none⟩ = false := YC.out.frozen j
        have ne : gp ≠ ad.block := by have := HG.out.2.1; omega
        have D0 := Lib.hid d0
        have D1 := Lib.hid d1
        clear x1 x2 x3 d0 d1
        go_wp2_with fail
        refine rg_begin (S := fun w' => w'.cell? (ad.add (k * 2)) = some (.int .u16 a) ∧ w'.cell? ⟨(ad.add (k * 2)).block, (ad.add (k * 2)).off + 1, none⟩ = some (.int .u8 b)) 15 #[false, false, false, false, false, false, false, false, false, false, false, false, false, false, false] (by kernel_rfl) (by kernel_rfl) (by kernel_rfl) ?_ (fun hHeld => ?_)
        · exact ⟨D0.out, D1.out⟩
        refine rg_take (i := 0) (d := some 25) (l := #[true, false, false, false, false, false, false, false, false, false, false, false, false, false, false]) (fuel := 14) (v := ?_) rfl (by kernel_rfl) (by kernel_rfl) (by kernel_rfl) (by kernel_rfl) (by kernel_rfl) (fun _ _ _ h => h) (by kernel_rfl) ?_ (by assumption) ?_
        rotate_left 1
        · (intro wS hSw; (try dsimp only at hSw); go_simp; try with_reducible rfl)
        try simp only [Act.put, List.setIfInBounds_toArray, List.set_cons_zero, List.set_cons_succ]
        refine rg_take (i := 1) (d := some 26) (l := #[true, true, false, false, false, false, false, false, false, false, false, false, false, false, false]) (fuel := 13) (v := ?_) rfl (by kernel_rfl) (by kernel_rfl) (by kernel_rfl) (by kernel_rfl) (by kernel_rfl) (fun _ _ _ h => h) (by kernel_rfl) ?_ (by assumption) ?_
        rotate_left 1
        · (intro wS hSw; (try dsimp only at hSw); go_simp; try with_reducible rfl)
        try simp only [Act.put, List.setIfInBounds_toArray, List.set_cons_zero, List.set_cons_succ]
        refine rg_take (i := 2) (d := some 27) (l := #[true, true, true, false, false, false, false, false, false, false, false, false, false, false, false]) (fuel := 12) (v := ?_) rfl (by kernel_rfl) (by kernel_rfl) (by kernel_rfl) (by kernel_rfl) (by kernel_rfl) (fun _ _ _ h => h) (by kernel_rfl) ?_ (by assumption) ?_
        rotate_left 1
        · (intro wS hSw; (try dsimp only at hSw); go_simp; try with_reducible rfl)
        try simp only [Act.put, List.setIfInBounds_toArray, List.set_cons_zero, List.set_cons_succ]
        refine rg_take (i := 3) (d := some 28) (l := #[true, true, true, true, false, false, false, false, false, false, false, false, false, false, false]) (fuel := 11) (v := ?_) rfl (by kernel_rfl) (by kernel_rfl) (by kernel_rfl) (by kernel_rfl) (by kernel_rfl) (fun _ _ _ h => h) (by kernel_rfl) ?_ (by assumption) ?_
        rotate_left 1
        · (intro wS hSw; (try dsimp only at hSw); go_simp; try with_reducible rfl)
        try simp only [Act.put, List.setIfInBounds_toArray, List.set_cons_zero, List.set_cons_succ]
        refine rg_take (i := 4) (d := some 29) (l := #[true, true, true, true, true, false, false, false, false, false, false, false, false, false, false]) (fuel := 10) (v := ?_) rfl (by kernel_rfl) (by kernel_rfl) (by kernel_rfl) (by kernel_rfl) (by kernel_rfl) (fun _ _ _ h => h) (by kernel_rfl) ?_ (by assumption) ?_
        rotate_left 1
        · (intro wS hSw; (try dsimp only at hSw); go_simp; try with_reducible rfl)
        try simp only [Act.put, List.setIfInBounds_toArray, List.set_cons_zero, List.set_cons_succ]
        refine rg_take (i := 5) (d := some 30) (l := #[true, true, true, true, true, true, false, false, false, false, false, false, false, false, false]) (fuel := 9) (v := ?_) rfl (by kernel_rfl) (by kernel_rfl) (by kernel_rfl) (by kernel_rfl) (by kernel_rfl) (fun _ _ _ h => h) (by kernel_rfl) ?_ (by assumption) ?_
        rotate_left 1
        · (intro wS hSw; (try dsimp only at hSw); go_simp; try with_reducible rfl)
        try simp only [Act.put, List.setIfInBounds_toArray, List.set_cons_zero, List.set_cons_succ]
        refine rg_take (i := 6) (d := some 31) (l := #[true, true, true, true, true, true, true, false, false, false, false, false, false, false, false]) (fuel := 8) (v := ?_) rfl (by kernel_rfl) (by kernel_rfl) (by kernel_rfl) (by kernel_rfl) (by kernel_rfl) (fun _ _ _ h => h) (by kernel_rfl) ?_ (by assumption) ?_
        rotate_left 1
        · (intro wS hSw; (try dsimp only at hSw); go_simp; try with_reducible rfl)
        try simp only [Act.put, List.setIfInBounds_toArray, List.set_cons_zero, List.set_cons_succ]
        refine rg_take (i := 7) (d := some 32) (l := #[true, true, true, true, true, true, true, true, false, false, false, false, false, false, false]) (fuel := 7) (v := ?_) rfl (by kernel_rfl) (by kernel_rfl) (by kernel_rfl) (by kernel_rfl) (by kernel_rfl) (fun _ _ _ h => h) (by kernel_rfl) ?_ (by assumption) ?_
        rotate_left 1
        · (intro wS hSw; (try dsimp only at hSw); go_simp; try with_reducible rfl)
        try simp only [Act.put, List.setIfInBounds_toArray, List.set_cons_zero, List.set_cons_succ]
        refine rg_take (i := 8) (d := some 33) (l := #[true, true, true, true, true, true, true, true, true, false, false, false, false, false, false]) (fuel := 6) (v := ?_) rfl (by kernel_rfl) (by kernel_rfl) (by kernel_rfl) (by kernel_rfl) (by kernel_rfl) (fun _ _ _ h => h) (by kernel_rfl) ?_ (by assumption) ?_
        rotate_left 1
        · (intro wS hSw; (try dsimp only at hSw); go_simp; try with_reducible rfl)
        try simp only [Act.put, List.setIfInBounds_toArray, List.set_cons_zero, List.set_cons_succ]
        refine rg_take (i := 9) (d := some 34) (l := #[true, true, true, true, true, true, true, true, true, true, false, false, false, false, false]) (fuel := 5) (v := ?_) rfl (by kernel_rfl) (by kernel_rfl) (by kernel_rfl) (by kernel_rfl) (by kernel_rfl) (fun _ _ _ h => h) (by kernel_rfl) ?_ (by assumption) ?_
        rotate_left 1
        · (intro wS hSw; (try dsimp only at hSw); go_simp; try with_reducible rfl)
        try simp only [Act.put, List.setIfInBounds_toArray, List.set_cons_zero, List.set_cons_succ]
        refine rg_take (i := 10) (d := some 35) (l := #[true, true, true, true, true, true, true, true, true, true, true, false, false, false, false]) (fuel := 4) (v := ?_) rfl (by kernel_rfl) (by kernel_rfl) (by kernel_rfl) (by kernel_rfl) (by kernel_rfl) (fun _ _ _ h => h) (by kernel_rfl) ?_ (by assumption) ?_
        rotate_left 1
        · (intro wS hSw; (try dsimp only at hSw); go_simp; try with_reducible rfl)
        try simp only [Act.put, List.setIfInBounds_toArray, List.set_cons_zero, List.set_cons_succ]
        refine rg_take (i := 11) (d := some 36) (l := #[true, true, true, true, true, true, true, true, true, true, true, true, false, false, false]) (fuel := 3) (v := ?_) rfl (by kernel_rfl) (by kernel_rfl) (by kernel_rfl) (by kernel_rfl) (by kernel_rfl) (fun _ _ _ h => h) (by kernel_rfl) ?_ (by assumption) ?_
        rotate_left 1
        · (intro wS hSw; (try dsimp only at hSw); go_simp; try with_reducible rfl)
        try simp only [Act.put, List.setIfInBounds_toArray, List.set_cons_zero, List.set_cons_succ]
        refine rg_take (i := 12) (d := some 37) (l := #[true, true, true, true, true, true, true, true, true, true, true, true, true, false, false]) (fuel := 2) (v := ?_) rfl (by kernel_rfl) (by kernel_rfl) (by kernel_rfl) (by kernel_rfl) (by kernel_rfl) (fun _ _ _ h => h) (by kernel_rfl) ?_ (by assumption) ?_
        rotate_left 1
        · (intro wS hSw; (try dsimp only at hSw); go_simp; try with_reducible rfl)
        try simp only [Act.put, List.setIfInBounds_toArray, List.set_cons_zero, List.set_cons_succ]
        refine rg_take (i := 13) (d := some 38) (l := #[true, true, true, true, true, true, true, true, true, true, true, true, true, true, false]) (fuel := 1) (v := ?_) rfl (by kernel_rfl) (by kernel_rfl) (by kernel_rfl) (by kernel_rfl) (by kernel_rfl) (fun _ _ _ h => h) (by kernel_rfl) ?_ (by assumption) ?_
        rotate_left 1
        · (intro wS hSw; (try dsimp only at hSw); go_simp; try with_reducible rfl)
        try simp only [Act.put, List.setIfInBounds_toArray, List.set_cons_zero, List.set_cons_succ]
        refine rg_next (i := 14) (l := #[true, true, true, true, true, true, true, true, true, true, true, true, true, true, true]) (fuel := 0) (by kernel_rfl) rfl (by kernel_rfl) (by kernel_rfl) (fun K hK => ?_)
        go_simp
        skip
        first | (refine hK.out _ _ ?_ (fun hHeld => ?_)) | (go_wp2_with fail; refine hK.out _ _ ?_ (fun hHeld => ?_))
        · (try dsimp only); exact ⟨by (rw [World.cell?_drew, World.cell?_setCell_far _ _ _ _ (by rw [block_of_add]; exact ne)]; exact D0.out), by (rw [World.cell?_drew, World.cell?_setCell_far _ _ _ _ (by rw [block_of_add]; exact ne)]; exact D1.out)⟩
        clear hK K
        try simp only [Act.put, List.setIfInBounds_toArray, List.set_cons_zero, List.set_cons_succ]
        refine wpAnyH_done (by kernel_rfl) ?_ _
        go_wp2_with fail
        go_roundw
        case rel =>
          have kp3 : Kp [gp] wc ((wc.setCell ⟨gp, j, none⟩ (.int .u8 b)).drew) := ((Kp.refl _ _).setCell (.inl (by simp)) _).drew
          have no := rd_off X1.out YC.out (by decide)
          have hs1 := QK.out.size
          refine ⟨k + 1, by omega, by go_num, (QK.out.trans X2.out ?_).trans kp3 (by simp), mb2, ⟨?_, C.set j (.int .u8 b), ?_, ?_⟩, QG.out.trans X3.out hs1⟩
          · intro x hx
            rcases List.mem_cons.1 hx with rfl | hx
            · exact .inl (by simp)
            · rcases QG.out.off x (by simpa using hx) with h | h
              · exact .inl (by simp [h])
              · exact .inr h
          · have h1 := X1.out.kp kp3 (by simp; intro e; exact no (by rw [e]; simp)) (fun x e => by simp; intro h; exact no (by rw [← h]; simp [e]))
            show RD _ _ _ (fw (fws f ps k) (ps k).1 (ps k).2)
            rw [HA.out, HBb.out]
            exact h1
          · have h2 := (YC.out.set_ j (.int .u8 b)).drew_
            rw [set_arr_] at h2
            exact h2
          · show BAt _ (fw (fws f ps k) (ps k).1 (ps k).2)
            rw [HA.out, HBb.out]
            have h3 := QA.out.wr a b a0 a1
            rw [HJ.out] at h3
            exact h3
        case measure => simp [intOf]; omega
    · obtain rfl : k = n := by omega
      have QB := Lib.hid hBr
      have QX : Hid (Both wr g gp mb' (fws f ps k)) := Lib.hid ⟨hRD, C, hC, hA⟩
      have QK := Lib.hid hK
      have QG := Lib.hid hgr
      clear hBr hRD hC hA hK hgr gs
      go_wp2
      go_end0
      exact ⟨rfl, QB.out, QK.out, mb', QX.out, QG.out⟩
end Go.Proofs.Ytfhndajhlpakoaa
