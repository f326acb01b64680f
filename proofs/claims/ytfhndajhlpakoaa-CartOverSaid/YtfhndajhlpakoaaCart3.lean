/-
  What the reference's Make of cart answers, for every number of pages and every pieces: the same as cart; it only makes memory.
-/
import Derived.Test.YtfhndajhlpakoaaCart2
namespace Go.Proofs.Ytfhndajhlpakoaa
open Go.RowKit
set_option linter.unusedVariables false
theorem set_arr (C : List Value) (i : Nat) (u : Value) : (List.toArray C).setIfInBounds i u = List.toArray (C.set i u) := by simp
theorem rmake_pages (n : Int) (A : Option Addr) (m c : Nat) (w : World) (h : mayB n = false) :
    Calls Try.prog 49 #[.int .i64 n, .slice A m c] w fun e w' => e = .returned (.tuple #[.slice none 0 0, .agg #[.int .i64 6, .int .i64 0]]) ∧ Below w.heap.size w w' := by
  have hn : ¬ (1 ≤ n ∧ n ≤ 128) := of_decide_eq_false h
  by_cases h1 : n < 1
  · clear h hn
    go_enter Try.func49, Try.ntmps49
    go_wp2_with fail
    go_returns
    exact ⟨by simp, by go_grown⟩
  · have d1 : decide (n < 1) = false := decide_eq_false h1
    have d2 : decide (128 < n) = true := decide_eq_true (by omega)
    clear h hn h1
    go_enter Try.func49, Try.ntmps49
    go_wp2_with fail
    go_returns
    exact ⟨by simp, by go_grown⟩
set_option maxRecDepth 100000 in
set_option maxHeartbeats 4000000 in
theorem rmake_any (n : Int) (S : Nat) (A : Option Addr) (m c : Nat) (ps : Nat → Pc) (w : World) (h : mayB n = true) (hS : (S : Int) = n * 8192) (hm : m ≤ maxLen) (R : PRow w A m ps) :
    Calls Try.prog 49 #[.int .i64 n, .slice A m c] w (MakeR ps m S w) := by
  have hn : 1 ≤ n ∧ n ≤ 128 := of_decide_eq_true h
  have hs1 : S ≤ 1048576 := by omega
  have HS := Lib.hid hS
  unfold maxLen at hm
  have MB := make_bytes S (by omega)
  have e1 : n * 8192 = (S : Int) := hS.symm
  have d1 : decide (n < 1) = false := decide_eq_false (by omega)
  have d2 : decide (128 < n) = false := decide_eq_false (by omega)
  clear hS
  go_enter Try.func49, Try.ntmps49
  go_wp2_with fail
  have hF0 : Blk ((w.alloc (.cells #[.int .i64 0, .int .i64 0] 30)).alloc (.cells (Array.replicate S (.int .u8 0)) 5)) w.heap.size 30 #[.int .i64 0, .int .i64 0] := (Blk.new w _ _).alloc _
  have hG0 : Blk ((w.alloc (.cells #[.int .i64 0, .int .i64 0] 30)).alloc (.cells (Array.replicate S (.int .u8 0)) 5)) (w.heap.size + 1) 5 (List.toArray (List.replicate S (.int .u8 0))) := by
    have := Blk.new (w.alloc (.cells #[.int .i64 0, .int .i64 0] 30)) 5 (Array.replicate S (.int .u8 0))
    simpa using this
  have hB0 : Below w.heap.size w ((w.alloc (.cells #[.int .i64 0, .int .i64 0] 30)).alloc (.cells (Array.replicate S (.int .u8 0)) 5)) := by go_grown
  generalize (w.alloc (.cells #[.int .i64 0, .int .i64 0] 30)).alloc (.cells (Array.replicate S (.int .u8 0)) 5) = w1 at *
  clear MB e1 d1 d2
  go_loopw [7] (fun i wr => ∃ k : Nat, k ≤ m ∧ i = .int .i64 k ∧ Blk wr w.heap.size 30 #[.int .i64 0, .int .i64 0] ∧ Below w.heap.size w wr ∧ Hid (∃ C, Blk wr (w.heap.size + 1) 5 (List.toArray C) ∧ BArr C S (laid ps k) ∧ ∀ i, i < k → good S (ps i))) (fun i _ => m - (intOf i).toNat)
  case atStart => exact ⟨0, by omega, rfl, hF0, hB0, Lib.hid ⟨_, hG0, BArr.zero S, fun i hi => absurd hi (by omega)⟩⟩
  case round =>
    obtain ⟨k, hk, rfl, hF, hB, HC⟩ := hrel
    have zB := hB.size
    obtain ⟨C, hG, hA, hgd⟩ := HC.out
    have lG := hG.lt
    by_cases hlt : k < m
    · have okw : PcOk w (ps k) := by
        obtain ⟨_, _, _, _, _, h⟩ := R k hlt
        exact h
      obtain ⟨ad, rfl, hl, c0, c1, ok⟩ := (R.keep hB) k hlt
      obtain ⟨p, hp⟩ : ∃ p, ps k = p := ⟨_, rfl⟩
      have LS : laidTo (laid ps k) p p.n = laid ps (k + 1) := by rw [← hp]; rfl
      rw [hp] at c0 c1 ok okw
      have c1' := cell_next c1
      have HP := Lib.hid hp
      obtain ⟨wa, hnc, hcm, _⟩ := ok
      have RW := okw.2.2.2
      have b64 := bounds_i64 wa
      unfold maxLen at hcm
      by_cases g : good S p
      · obtain ⟨a, A', n', c', z⟩ := p
        obtain ⟨off, rfl⟩ := Int.eq_ofNat_of_zero_le g.1
        obtain ⟨g0, g1⟩ := g
        simp only at c0 c1' hnc hcm RW HP LS g0 g1 b64
        have HL := Lib.hid LS
        have GG : good S ⟨off, A', n', c', z⟩ := ⟨g0, g1⟩
        have d1 : decide ((off : Int) < 0) = false := decide_eq_false (by omega)
        have d2 : decide ((S : Int) < off) = false := decide_eq_false (by omega)
        have d3 : decide ((S : Int) - off < n') = false := decide_eq_false (by omega)
        clear hp c1 wa okw LS
        have hP0 := Blk.new wr 25 #[.int .i64 (off : Int), .slice A' n' c']
        have hG0 := hG.alloc (.cells #[.int .i64 (off : Int), .slice A' n' c'] 25)
        have hF0 := hF.alloc (.cells #[.int .i64 (off : Int), .slice A' n' c'] 25)
        have hB0 := hB.alloc zB (.cells #[.int .i64 (off : Int), .slice A' n' c'] 25)
        obtain ⟨wo, rfl⟩ : ∃ wo : World, wo = wr := ⟨_, rfl⟩
        go_wp2_with fail
        generalize hg0 : wo.alloc (.cells #[.int .i64 (off : Int), .slice A' n' c'] 25) = w2 at *
        have lP : w.heap.size + 1 < wo.heap.size := lG
        generalize wo.heap.size = gp at *
        clear hg0 c0 c1' hF hB hl zB lG hG
        go_loopw [9] (fun i wr => ∃ j : Nat, j ≤ n' ∧ i = .int .i64 j ∧ Blk wr w.heap.size 30 #[.int .i64 0, .int .i64 0] ∧ Blk wr gp 25 #[.int .i64 (off : Int), .slice A' n' c'] ∧ Below w.heap.size w wr ∧ Hid (∃ C, Blk wr (w.heap.size + 1) 5 (List.toArray C) ∧ BArr C S (laidTo (laid ps k) ⟨off, A', n', c', z⟩ j))) (fun i _ => n' - (intOf i).toNat)
        case atStart => exact ⟨0, by omega, rfl, hF0, hP0, hB0, Lib.hid ⟨_, hG0, by rw [laidTo_zero]; exact hA⟩⟩
        case round =>
          obtain ⟨j, hj, rfl, hF, hP, hB, HD⟩ := hrel
          obtain ⟨D, hG, hD⟩ := HD.out
          have p0 := hP.cell 0
          have p1 := hP.cell 1
          simp only [List.getElem?_toArray, List.getElem?_cons_zero, List.getElem?_cons_succ] at p0 p1
          by_cases hjl : j < n'
          · have i1 : (0 : Int) ≤ (j : Int) := by omega
            have i2 : (j : Int) < n' := by omega
            have i3 : IntKind.i64.wrap ((off : Int) + j) = off + j := IntWalk.i64_in _ (by omega)
            have i4 : (0 : Int) ≤ (off : Int) + j := by omega
            have i5 : (off : Int) + j < S := by omega
            have i6 : ((off : Int) + j).toNat = off + j := by omega
            obtain ⟨ae, rfl, hla, hca, _⟩ := (RW.keep hB) j hjl
            have s0 : wr.cell? ⟨w.heap.size + 1, off + j, none⟩ = some (.int .u8 (laidTo (laid ps k) ⟨off, some ae, n', c', z⟩ j (off + j))) := by
              rw [hG.cell]; simpa using hD.2 (off + j) (by omega)
            have s1 := hG.frozen (off + j)
            have hD2 := Lib.hid (hD.step (off := off) rfl (by omega))
            go_wp2_with fail
            go_still_tail 11, (by kernel_rfl)
            change wpList _ _ _ _ _ wr.drew
            have hG3 : Blk wr.drew (w.heap.size + 1) 5 D.toArray := hG
            have hF3 : Blk wr.drew w.heap.size 30 #[.int .i64 0, .int .i64 0] := hF
            have hP3 : Blk wr.drew gp 25 #[.int .i64 (off : Int), .slice (some ae) n' c'] := hP
            have hB3 : Below w.heap.size w wr.drew := hB.drew
            have s0' : wr.drew.cell? ⟨w.heap.size + 1, off + j, none⟩ = some (.int .u8 (laidTo (laid ps k) ⟨off, some ae, n', c', z⟩ j (off + j))) := s0
            have s1' : wr.drew.frozen? ⟨w.heap.size + 1, off + j, none⟩ = false := s1
            clear s0 s1 hca p0 p1
            generalize wr.drew = w3 at *
            go_wp2_with fail
            go_roundw
            case rel => exact ⟨j + 1, by omega, by go_num, hF3.far (by simp) _, hP3.far (by simp; omega) _, hB3.setCell (p := ⟨w.heap.size + 1, off + j, none⟩) (by simp) _, Lib.hid ⟨_, by have := hG3.set_ (off + j) (.int .u8 (z j)); rw [set_arr] at this; exact this, hD2.out⟩⟩
            case measure => simp [intOf]; omega
          · obtain rfl : j = n' := by omega
            rw [HL.out] at hD
            go_wp2_with fail
            go_roundw
            case rel => exact ⟨k + 1, by omega, by go_num, hF, hB, Lib.hid ⟨_, hG, hD, fun i hi => good_succ hgd (by rw [HP.out]; exact GG) i hi⟩⟩
            case measure => simp [intOf]; omega
      · have BG : ¬ good S (ps k) := by rw [hp]; exact g
        have hB2 : Below w.heap.size w (wr.alloc (.cells #[.int .i64 p.at_, .slice p.A p.n p.c] 25)) := hB.alloc zB _
        unfold good at g
        clear hp c1 wa okw RW LS
        obtain ⟨a, A', n', c', z⟩ := p
        simp only at c0 c1' hnc hcm g b64 hB2
        have hFV := hF.alloc (.cells #[.int .i64 a, .slice A' n' c'] 25)
        have f0 := hFV.cell 0
        have f1 := hFV.cell 1
        have fz := hFV.frozen
        simp only [List.getElem?_toArray, List.getElem?_cons_zero, List.getElem?_cons_succ] at f0 f1
        by_cases t1 : a < 0
        · clear g
          go_wp2_with fail
          refine bodyPost_ret (v := .tuple #[.slice none 0 0, .agg #[.int .i64 1, .int .i64 k]]) (by simp [results, Try.results49, go_sem, f0, f1]) rfl ?_
          exact ⟨(hB2.setCell (p := ⟨w.heap.size, 0, none⟩) (Nat.le_refl _) _).setCell (p := ⟨w.heap.size, 1, none⟩) (Nat.le_refl _) _, Or.inl ⟨k, hlt, BG, hgd, rfl⟩⟩
        · have d1 : decide (a < 0) = false := decide_eq_false t1
          by_cases t2 : (S : Int) < a
          · clear g t1
            go_wp2_with fail
            refine bodyPost_ret (v := .tuple #[.slice none 0 0, .agg #[.int .i64 1, .int .i64 k]]) (by simp [results, Try.results49, go_sem, f0, f1]) rfl ?_
            exact ⟨(hB2.setCell (p := ⟨w.heap.size, 0, none⟩) (Nat.le_refl _) _).setCell (p := ⟨w.heap.size, 1, none⟩) (Nat.le_refl _) _, Or.inl ⟨k, hlt, BG, hgd, rfl⟩⟩
          · have d2 : decide ((S : Int) < a) = false := decide_eq_false t2
            have a0 : 0 ≤ a := by omega
            have d3 : decide ((S : Int) - a < n') = true := decide_eq_true (by omega)
            clear g t1 t2
            go_wp2_with fail
            refine bodyPost_ret (v := .tuple #[.slice none 0 0, .agg #[.int .i64 1, .int .i64 k]]) (by simp [results, Try.results49, go_sem, f0, f1]) rfl ?_
            exact ⟨(hB2.setCell (p := ⟨w.heap.size, 0, none⟩) (Nat.le_refl _) _).setCell (p := ⟨w.heap.size, 1, none⟩) (Nat.le_refl _) _, Or.inl ⟨k, hlt, BG, hgd, rfl⟩⟩
    · obtain rfl : k = m := by omega
      have f0 := hF.cell 0
      have f1 := hF.cell 1
      have fz := hF.frozen
      simp only [List.getElem?_toArray, List.getElem?_cons_zero, List.getElem?_cons_succ] at f0 f1
      go_wp2_with fail
      have hG' : Blk ((wr.setCell ⟨w.heap.size, 0, none⟩ (.int .i64 0)).setCell ⟨w.heap.size, 1, none⟩ (.int .i64 0)) (w.heap.size + 1) 5 C.toArray := (hG.far (by simp) _).far (by simp) _
      have hB' : Below w.heap.size w ((wr.setCell ⟨w.heap.size, 0, none⟩ (.int .i64 0)).setCell ⟨w.heap.size, 1, none⟩ (.int .i64 0)) := (hB.setCell (p := ⟨w.heap.size, 0, none⟩) (Nat.le_refl _) _).setCell (p := ⟨w.heap.size, 1, none⟩) (Nat.le_refl _) _
      refine bodyPost_ret (v := .tuple #[.slice (some ⟨w.heap.size + 1, 0, none⟩) S S, .agg #[.int .i64 0, .int .i64 0]]) (by simp [results, Try.results49, go_sem, f0, f1]) rfl ?_
      exact ⟨hB', Or.inr ⟨hgd, _, C, rfl, by omega, hG', hA⟩⟩
end Go.Proofs.Ytfhndajhlpakoaa
