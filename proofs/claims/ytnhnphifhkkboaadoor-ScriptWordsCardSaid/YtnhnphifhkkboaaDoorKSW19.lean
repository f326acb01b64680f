/-
  Texts of these proofs, one behind the other: Cart1, Cart2, Cart3.
-/
import Derived.Test.YtnhnphifhkkboaaDoorKSW12
import Derived.Test.YtnhnphifhkkboaaDoorProg
import Derived.WalkKit
import Derived.WalkSpells
import Derived.Handy
import Derived.Lib.Hide
import Derived.Test.YtnhnphifhkkboaaDoorKSW14
import Derived.Deep.QuietTactic
import Derived.BigQuiet
import Derived.StillTailTactics
namespace Go.Proofs.YtnhnphifhkkboaaDoor
open Go.RowKit
set_option linter.unusedVariables false
def mayB (n : Int) : Bool := decide (1 ≤ n ∧ n ≤ 128)
set_option maxHeartbeats 400000 in
theorem may_any (n : Int) (w : World) :
    Calls Tryd.prog 89 #[.int .i64 n] w fun e w' => e = .returned (.bool (mayB n)) ∧ w = w' := by
  by_cases h : 1 ≤ n
  · by_cases h2 : n ≤ 128
    · have e : mayB n = true := decide_eq_true ⟨h, h2⟩
      have H := Lib.hid e
      clear e
      go_enter Tryd.func89, Tryd.ntmps89
      go_wp2
      go_ret
      exact ⟨by rw [H.out]; simp, rfl⟩
    · have e : mayB n = false := decide_eq_false (by omega)
      have H := Lib.hid e
      have d : decide (n ≤ 128) = false := decide_eq_false h2
      clear e h2
      go_enter Tryd.func89, Tryd.ntmps89
      go_wp2
      go_ret
      exact ⟨by rw [H.out]; simp, rfl⟩
  · have e : mayB n = false := decide_eq_false (by omega)
    have H := Lib.hid e
    have d : decide (1 ≤ n) = false := decide_eq_false h
    clear e h
    go_enter Tryd.func89, Tryd.ntmps89
    go_wp2
    go_ret
    exact ⟨by rw [H.out]; simp, rfl⟩
/-- Of so many bytes: are they an image? -/
def imgE (n : Nat) : Int := if 0 < n ∧ n % 8192 = 0 ∧ n ≤ 1048576 then 0 else 6
set_option maxHeartbeats 1000000 in
theorem check_any (A : Option Addr) (n c : Nat) (w : World) (hn : n ≤ maxLen) :
    Calls Tryd.prog 44 #[.slice A n c] w fun e w' => e = .returned (.int .i64 (imgE n)) ∧ w = w' := by
  unfold maxLen at hn
  by_cases h : n % 8192 = 0
  · have d1 : ((n : Int) % 8192 != 0) = false := by rw [bne_eq_false_iff_eq]; omega
    by_cases h2 : mayB ((n : Int) / 8192) = true
    · have e : imgE n = 0 := by unfold mayB at h2; simp only [decide_eq_true_eq] at h2; unfold imgE; rw [if_pos]; omega
      have H := Lib.hid e
      clear e h
      go_enter Tryd.func44, Tryd.ntmps44
      go_wp2_with (go_at_call 89; refine (may_any _ _).mono ?_; rintro e w' ⟨rfl, rfl⟩)
      go_ret
      exact ⟨by rw [H.out]; rfl, rfl⟩
    · have h3 : mayB ((n : Int) / 8192) = false := by simpa using h2
      have e : imgE n = 6 := by unfold mayB at h2; simp only [decide_eq_true_eq] at h2; unfold imgE; rw [if_neg]; omega
      have H := Lib.hid e
      clear e h h2
      go_enter Tryd.func44, Tryd.ntmps44
      go_wp2_with (go_at_call 89; refine (may_any _ _).mono ?_; rintro e w' ⟨rfl, rfl⟩)
      go_ret
      exact ⟨by rw [H.out]; rfl, rfl⟩
  · have d1 : ((n : Int) % 8192 != 0) = true := by rw [bne_iff_ne]; omega
    have e : imgE n = 6 := by unfold imgE; rw [if_neg]; omega
    have H := Lib.hid e
    clear e h
    go_enter Tryd.func44, Tryd.ntmps44
    go_wp2_with (go_at_call 89; refine (may_any _ _).mono ?_; rintro e w' ⟨rfl, rfl⟩)
    go_ret
    exact ⟨by rw [H.out]; rfl, rfl⟩
set_option maxHeartbeats 1000000 in
theorem within_yes (p : Pc) (S : Int) (w : World) (s0 : 0 ≤ S) (s1 : S ≤ 1099511627776) (h : good S p) (hn : p.n ≤ maxLen) :
    Calls Tryd.prog 125 #[.agg #[.int .i64 p.at_, .slice p.A p.n p.c], .int .i64 S] w fun e w' => e = .returned (.bool true) ∧ Below w.heap.size w w' := by
  obtain ⟨a, A, n, c, z⟩ := p
  obtain ⟨h0, h1⟩ := h
  simp only at h0 h1 hn ⊢
  unfold maxLen at hn
  go_enter Tryd.func125, Tryd.ntmps125
  go_wp2
  go_ret
  exact ⟨by simp, by go_grown⟩
set_option maxHeartbeats 1000000 in
theorem within_no (p : Pc) (S : Int) (w : World) (s0 : 0 ≤ S) (s1 : S ≤ 1099511627776) (h : ¬ good S p) (hn : p.n ≤ maxLen) (ha : p.at_ ≤ 9223372036854775807) :
    Calls Tryd.prog 125 #[.agg #[.int .i64 p.at_, .slice p.A p.n p.c], .int .i64 S] w fun e w' => e = .returned (.bool false) ∧ Below w.heap.size w w' := by
  obtain ⟨a, A, n, c, z⟩ := p
  unfold good at h
  simp only at h hn ha ⊢
  unfold maxLen at hn
  by_cases h0 : 0 ≤ a
  · have d : decide ((n : Int) ≤ S - a) = false := decide_eq_false (by omega)
    clear h
    go_enter Tryd.func125, Tryd.ntmps125
    go_wp2
    go_ret
    exact ⟨by simp, by go_grown⟩
  · have d : decide (0 ≤ a) = false := decide_eq_false h0
    clear h h0
    go_enter Tryd.func125, Tryd.ntmps125
    go_wp2
    go_ret
    exact ⟨by simp, by go_grown⟩
end Go.Proofs.YtnhnphifhkkboaaDoor
namespace Go.Proofs.YtnhnphifhkkboaaDoor
open Go.RowKit
set_option linter.unusedVariables false
/-- What becomes of a call that lays pieces into an image of S bytes. -/
def MakeR (ps : Nat → Pc) (m S : Nat) (w : World) (e : Ending) (w' : World) : Prop :=
  Below w.heap.size w w' ∧ ((∃ j, j < m ∧ ¬ good S (ps j) ∧ (∀ i, i < j → good S (ps i)) ∧ e = .returned (.tuple #[.slice none 0 0, .agg #[.int .i64 1, .int .i64 j]])) ∨
    ((∀ i, i < m → good S (ps i)) ∧ ∃ g C, e = .returned (.tuple #[.slice (some ⟨g, 0, none⟩) S S, .agg #[.int .i64 0, .int .i64 0]]) ∧ w.heap.size ≤ g ∧ Blk w' g 5 (List.toArray C) ∧ BArr C S (laid ps m)))
theorem u8_info : (Tryd.prog.info? 5).map (fun i => (i.zero, i.size, i.bytes)) = some (some (.int .u8 0), 1, 1) := by kernel_rfl
set_option maxRecDepth 100000 in
theorem make_bytes (n : Nat) (hn : n ≤ 16777216) (w : World) : (Instr.makeSlice 22 (.int .i64 (n : Int)) (.int .i64 (n : Int))).run Tryd.prog w = .ok (.slice (some ⟨w.heap.size, 0, none⟩) n n) (w.alloc (.cells (Array.replicate n (.int .u8 0)) 5)) := by
  obtain ⟨i, hi, hzz⟩ := Option.map_eq_some_iff.1 u8_info
  simp only [Prod.mk.injEq] at hzz
  obtain ⟨hz, hs, hb⟩ := hzz
  have h := run_makeSlice (P := Tryd.prog) w 22 5 i _ Tryd.underlying22 hi hz .i64 .i64 n n (by omega) (by omega) (by rw [hs]; simp; omega) (by rw [hb]; omega) (by omega)
  rw [h]
  simp only [Int.toNat_natCast, hs, Nat.mul_one]
  congr 3
  unfold madeCells
  apply Array.ext
  · simp
  · intro i h1 h2; simp [Value.cells, Nat.mod_one]
theorem make_pages (n : Int) (A : Option Addr) (m c : Nat) (w : World) (h : mayB n = false) :
    Calls Tryd.prog 98 #[.int .i64 n, .slice A m c] w fun e w' => e = .returned (.tuple #[.slice none 0 0, .agg #[.int .i64 6, .int .i64 0]]) ∧ Below w.heap.size w w' := by
  go_enter Tryd.func98, Tryd.ntmps98
  go_wp2_with (go_at_call 89; refine (may_any _ _).mono ?_; rintro e w' ⟨rfl, rfl⟩)
  go_returns
  exact ⟨by simp, by go_grown⟩
theorem _root_.Go.RowKit.Below.grown_ {B C : Nat} {a w w' : World} (h : Below B a w) (q : Below C w w') (hBC : B ≤ C := by omega) : Below B a w' := h.trans (q.mono hBC)
theorem good_succ {S : Int} {ps : Nat → Pc} {k : Nat} (h : ∀ i, i < k → good S (ps i)) (g : good S (ps k)) (i : Nat) (hi : i < k + 1) : good S (ps i) := by
  rcases Nat.lt_or_ge i k with a | a
  · exact h i a
  · rw [show i = k by omega]; exact g
theorem IRow.src {w : World} {A : Option Addr} {n : Nat} {z : Nat → Int} (h : IRow w .u8 A n z) (hn : 0 < n) : ∃ ad, A = some ad ∧ ∀ j v, (bytesOf z n)[j]? = some v → w.cell? (ad.add j) = some v := by
  obtain ⟨ad, e, _, _, _⟩ := h 0 hn
  refine ⟨ad, e, fun j v hv => ?_⟩
  have hj : j < n := by have := (List.getElem?_eq_some_iff.1 hv).1; rwa [bytesOf_len] at this
  rw [bytesOf_at z n j hj] at hv
  injection hv with hv
  subst hv
  obtain ⟨ae, e2, _, hc, _⟩ := h j hj
  rw [e] at e2
  injection e2 with e2
  subst e2
  exact hc
set_option maxRecDepth 100000 in
set_option maxHeartbeats 2000000 in
theorem make_any (n : Int) (S : Nat) (A : Option Addr) (m c : Nat) (ps : Nat → Pc) (w : World) (h : mayB n = true) (hS : (S : Int) = n * 8192) (hm : m ≤ maxLen) (R : PRow w A m ps) :
    Calls Tryd.prog 98 #[.int .i64 n, .slice A m c] w (MakeR ps m S w) := by
  have hn : 1 ≤ n ∧ n ≤ 128 := of_decide_eq_true h
  have hs1 : S ≤ 1048576 := by omega
  have HS := Lib.hid hS
  unfold maxLen at hm
  have MB := make_bytes S (by omega)
  have e1 : n * 8192 = (S : Int) := hS.symm
  clear hS
  go_enter Tryd.func98, Tryd.ntmps98
  go_wp2_with (go_at_call 89; refine (may_any _ _).mono ?_; rintro e w' ⟨rfl, rfl⟩)
  have hF0 : Blk ((w.alloc (.cells #[.int .i64 0, .int .i64 0] 34)).alloc (.cells (Array.replicate S (.int .u8 0)) 5)) w.heap.size 34 #[.int .i64 0, .int .i64 0] := (Blk.new w _ _).alloc _
  have hG0 : Blk ((w.alloc (.cells #[.int .i64 0, .int .i64 0] 34)).alloc (.cells (Array.replicate S (.int .u8 0)) 5)) (w.heap.size + 1) 5 (List.toArray (List.replicate S (.int .u8 0))) := by
    have := Blk.new (w.alloc (.cells #[.int .i64 0, .int .i64 0] 34)) 5 (Array.replicate S (.int .u8 0))
    simpa using this
  have hB0 : Below w.heap.size w ((w.alloc (.cells #[.int .i64 0, .int .i64 0] 34)).alloc (.cells (Array.replicate S (.int .u8 0)) 5)) := by go_grown
  generalize (w.alloc (.cells #[.int .i64 0, .int .i64 0] 34)).alloc (.cells (Array.replicate S (.int .u8 0)) 5) = w1 at *
  clear MB e1
  go_loopw [18] (fun i wr => ∃ k : Nat, k ≤ m ∧ i = .int .i64 k ∧ Blk wr w.heap.size 34 #[.int .i64 0, .int .i64 0] ∧ Below w.heap.size w wr ∧ Hid (∃ C, Blk wr (w.heap.size + 1) 5 (List.toArray C) ∧ BArr C S (laid ps k) ∧ ∀ i, i < k → good S (ps i))) (fun i _ => m - (intOf i).toNat)
  case atStart => exact ⟨0, by omega, rfl, hF0, hB0, Lib.hid ⟨_, hG0, BArr.zero S, fun i hi => absurd hi (by omega)⟩⟩
  case round =>
    obtain ⟨k, hk, rfl, hF, hB, HC⟩ := hrel
    have zB := hB.size
    obtain ⟨C, hG, hA, hgd⟩ := HC.out
    have lG := hG.lt
    have f0 := hF.cell 0
    have f1 := hF.cell 1
    have fz := hF.frozen
    simp only [List.getElem?_toArray, List.getElem?_cons_zero, List.getElem?_cons_succ] at f0 f1
    by_cases hlt : k < m
    · obtain ⟨ad, rfl, hl, c0, c1, ok⟩ := (R.keep hB) k hlt
      obtain ⟨p, hp⟩ : ∃ p, ps k = p := ⟨_, rfl⟩
      have hA' : good S p → BArr (splice C p.at_.toNat (bytesOf p.z p.n)) S (laid ps (k + 1)) := by rw [← hp]; exact hA.lay
      rw [hp] at c0 c1 ok
      have c1' := cell_next c1
      have HP := Lib.hid hp
      obtain ⟨wa, hnc, hcm, RB⟩ := ok
      have b64 := bounds_i64 wa
      unfold maxLen at hcm
      by_cases g : good S p
      · obtain ⟨a, A', n', c', z⟩ := p
        obtain ⟨off, rfl⟩ := Int.eq_ofNat_of_zero_le g.1
        have hA2 := hA' g
        obtain ⟨g0, g1⟩ := g
        simp only at c0 c1' hA2 hnc hcm RB HP g0 g1 b64
        have HA2 := Lib.hid hA2
        have GG : good S ⟨off, A', n', c', z⟩ := ⟨g0, g1⟩
        clear hA2 hp c1 wa hA'
        go_wp2_with fail
        refine (within_yes ⟨off, A', n', c', z⟩ S _ (by omega) (by omega) GG (by show n' ≤ maxLen; unfold maxLen; omega)).mono ?_
        rintro e w2 ⟨rfl, hb2⟩
        have hP2 := (Blk.new wr 108 #[.int .i64 (off : Int), .slice A' n' c']).below hb2 (by simp)
        have hG2 := (hG.alloc _).below hb2 (by simp; omega)
        have hF2 := (hF.alloc _).below hb2 (by simp; omega)
        have RB2 := (RB.keep ((Below.refl wr.heap.size wr).alloc (Nat.le_refl _) (.cells #[.int .i64 (off : Int), .slice A' n' c'] 108))).keep hb2
        have hB2 : Below w.heap.size w w2 := (hB.alloc zB _).trans (hb2.mono (by simp; omega))
        have p0 := hP2.cell 0
        have p1 := hP2.cell 1
        simp only [List.getElem?_toArray, List.getElem?_cons_zero, List.getElem?_cons_succ] at p0 p1
        have k0 : (off : Int) ≤ S := by omega
        clear hb2 f0 f1 fz RB c0 c1' hP2
        go_wp2_with fail
        by_cases hoS : off = S
        · subst hoS
          obtain rfl : n' = 0 := by omega
          go_still_tail 6, (by kernel_rfl)
          change wpList _ _ _ _ _ w2.drew
          have hG3 : Blk w2.drew (w.heap.size + 1) 5 C.toArray := hG2
          have hF3 : Blk w2.drew w.heap.size 34 #[.int .i64 0, .int .i64 0] := hF2
          have hB3 : Below w.heap.size w w2.drew := hB2.drew
          generalize w2.drew = w3 at *
          refine wpList_copy_splice rfl (.tmp 33) (.tmp 35) 22 22 rfl 5 Tryd.underlying22 (by kernel_rfl) _ _ _ _ _ _ rfl rfl (w.heap.size + 1) off C 5 hG3 (bytesOf z 0) (by simp [bytesOf]) (fun h => by simp [bytesOf] at h) (by rw [bytesOf_len, hA.1]; omega) (bytesOf_one _ _) (w.heap.size + 1) w3 (Below.refl _ _) (Nat.le_refl _) ?_
          intro w4 HG4 hB4
          have hG4 : Blk w4 (w.heap.size + 1) 5 (splice C off (bytesOf z 0)).toArray := HG4
          have hF4 := hF3.below hB4 (by omega)
          have hB5 := (hB3.grown_ hB4)
          go_wp2_with fail
          go_roundw
          case rel => exact ⟨k + 1, by omega, by go_num, hF4, hB5, Lib.hid ⟨_, hG4, HA2.out, fun i hi => good_succ hgd (by rw [HP.out]; exact GG) i hi⟩⟩
          case measure => simp [intOf]; omega
        · have hne : ¬ S = off := fun h => hoS h.symm
          go_still_tail 6, (by kernel_rfl)
          change wpList _ _ _ _ _ w2.drew
          have hG3 : Blk w2.drew (w.heap.size + 1) 5 C.toArray := hG2
          have hF3 : Blk w2.drew w.heap.size 34 #[.int .i64 0, .int .i64 0] := hF2
          have hB3 : Below w.heap.size w w2.drew := hB2.drew
          have RB3 : IRow w2.drew .u8 A' n' z := RB2
          generalize w2.drew = w3 at *
          refine wpList_copy_splice rfl (.tmp 33) (.tmp 35) 22 22 rfl 5 Tryd.underlying22 (by kernel_rfl) _ _ _ _ _ _ rfl rfl (w.heap.size + 1) off C 5 hG3 (bytesOf z n') (by rw [bytesOf_len]; exact (Nat.min_eq_left (by omega)).symm) (fun h => ⟨rfl, RB3.src (by rw [bytesOf_len] at h; exact h)⟩) (by rw [bytesOf_len, hA.1]; omega) (bytesOf_one _ _) (w.heap.size + 1) w3 (Below.refl _ _) (Nat.le_refl _) ?_
          intro w4 HG4 hB4
          have hG4 : Blk w4 (w.heap.size + 1) 5 (splice C off (bytesOf z n')).toArray := HG4
          have hF4 := hF3.below hB4 (by omega)
          have hB5 := (hB3.grown_ hB4)
          go_wp2_with fail
          go_roundw
          case rel => exact ⟨k + 1, by omega, by go_num, hF4, hB5, Lib.hid ⟨_, hG4, HA2.out, fun i hi => good_succ hgd (by rw [HP.out]; exact GG) i hi⟩⟩
          case measure => simp [intOf]; omega
      · have BG : ¬ good S (ps k) := by rw [hp]; exact g
        go_wp2_with fail
        refine (within_no p S _ (by omega) (by omega) g (by unfold maxLen; omega) (by omega)).mono ?_
        rintro e w2 ⟨rfl, hb2⟩
        have hF2 := (hF.alloc (.cells #[.int .i64 p.at_, .slice p.A p.n p.c] 108)).below hb2 (by simp; omega)
        have hB2 : Below w.heap.size w w2 := (hB.alloc zB _).trans (hb2.mono (by simp; omega))
        clear f0 f1 fz c0 c1 c1' hb2
        have f0 := hF2.cell 0
        have f1 := hF2.cell 1
        have fz := hF2.frozen
        simp only [List.getElem?_toArray, List.getElem?_cons_zero, List.getElem?_cons_succ] at f0 f1
        go_wp2_with fail
        refine bodyPost_ret (v := .tuple #[.slice none 0 0, .agg #[.int .i64 1, .int .i64 k]]) (by simp [results, Tryd.results98, go_sem, f0, f1]) rfl ?_
        exact ⟨(hB2.setCell (p := ⟨w.heap.size, 0, none⟩) (Nat.le_refl _) _).setCell (p := ⟨w.heap.size, 1, none⟩) (Nat.le_refl _) _, Or.inl ⟨k, hlt, BG, hgd, rfl⟩⟩
    · obtain rfl : k = m := by omega
      go_wp2_with fail
      have hG' : Blk ((wr.setCell ⟨w.heap.size, 0, none⟩ (.int .i64 0)).setCell ⟨w.heap.size, 1, none⟩ (.int .i64 0)) (w.heap.size + 1) 5 C.toArray := (hG.far (by simp) _).far (by simp) _
      have hB' : Below w.heap.size w ((wr.setCell ⟨w.heap.size, 0, none⟩ (.int .i64 0)).setCell ⟨w.heap.size, 1, none⟩ (.int .i64 0)) := (hB.setCell (p := ⟨w.heap.size, 0, none⟩) (Nat.le_refl _) _).setCell (p := ⟨w.heap.size, 1, none⟩) (Nat.le_refl _) _
      refine bodyPost_ret (v := .tuple #[.slice (some ⟨w.heap.size + 1, 0, none⟩) S S, .agg #[.int .i64 0, .int .i64 0]]) (by simp [results, Tryd.results98, go_sem, f0, f1]) rfl ?_
      exact ⟨hB', Or.inr ⟨hgd, _, C, rfl, by omega, hG', hA⟩⟩
end Go.Proofs.YtnhnphifhkkboaaDoor
namespace Go.Proofs.YtnhnphifhkkboaaDoor
open Go.RowKit
set_option linter.unusedVariables false
theorem set_arr (C : List Value) (i : Nat) (u : Value) : (List.toArray C).setIfInBounds i u = List.toArray (C.set i u) := by simp
theorem rmake_pages (n : Int) (A : Option Addr) (m c : Nat) (w : World) (h : mayB n = false) :
    Calls Tryd.prog 53 #[.int .i64 n, .slice A m c] w fun e w' => e = .returned (.tuple #[.slice none 0 0, .agg #[.int .i64 6, .int .i64 0]]) ∧ Below w.heap.size w w' := by
  have hn : ¬ (1 ≤ n ∧ n ≤ 128) := of_decide_eq_false h
  by_cases h1 : n < 1
  · clear h hn
    go_enter Tryd.func53, Tryd.ntmps53
    go_wp2_with fail
    go_returns
    exact ⟨by simp, by go_grown⟩
  · have d1 : decide (n < 1) = false := decide_eq_false h1
    have d2 : decide (128 < n) = true := decide_eq_true (by omega)
    clear h hn h1
    go_enter Tryd.func53, Tryd.ntmps53
    go_wp2_with fail
    go_returns
    exact ⟨by simp, by go_grown⟩
set_option maxRecDepth 100000 in
set_option maxHeartbeats 4000000 in
theorem rmake_any (n : Int) (S : Nat) (A : Option Addr) (m c : Nat) (ps : Nat → Pc) (w : World) (h : mayB n = true) (hS : (S : Int) = n * 8192) (hm : m ≤ maxLen) (R : PRow w A m ps) :
    Calls Tryd.prog 53 #[.int .i64 n, .slice A m c] w (MakeR ps m S w) := by
  have hn : 1 ≤ n ∧ n ≤ 128 := of_decide_eq_true h
  have hs1 : S ≤ 1048576 := by omega
  have HS := Lib.hid hS
  unfold maxLen at hm
  have MB := make_bytes S (by omega)
  have e1 : n * 8192 = (S : Int) := hS.symm
  have d1 : decide (n < 1) = false := decide_eq_false (by omega)
  have d2 : decide (128 < n) = false := decide_eq_false (by omega)
  clear hS
  go_enter Tryd.func53, Tryd.ntmps53
  go_wp2_with fail
  have hF0 : Blk ((w.alloc (.cells #[.int .i64 0, .int .i64 0] 34)).alloc (.cells (Array.replicate S (.int .u8 0)) 5)) w.heap.size 34 #[.int .i64 0, .int .i64 0] := (Blk.new w _ _).alloc _
  have hG0 : Blk ((w.alloc (.cells #[.int .i64 0, .int .i64 0] 34)).alloc (.cells (Array.replicate S (.int .u8 0)) 5)) (w.heap.size + 1) 5 (List.toArray (List.replicate S (.int .u8 0))) := by
    have := Blk.new (w.alloc (.cells #[.int .i64 0, .int .i64 0] 34)) 5 (Array.replicate S (.int .u8 0))
    simpa using this
  have hB0 : Below w.heap.size w ((w.alloc (.cells #[.int .i64 0, .int .i64 0] 34)).alloc (.cells (Array.replicate S (.int .u8 0)) 5)) := by go_grown
  generalize (w.alloc (.cells #[.int .i64 0, .int .i64 0] 34)).alloc (.cells (Array.replicate S (.int .u8 0)) 5) = w1 at *
  clear MB e1 d1 d2
  go_loopw [7] (fun i wr => ∃ k : Nat, k ≤ m ∧ i = .int .i64 k ∧ Blk wr w.heap.size 34 #[.int .i64 0, .int .i64 0] ∧ Below w.heap.size w wr ∧ Hid (∃ C, Blk wr (w.heap.size + 1) 5 (List.toArray C) ∧ BArr C S (laid ps k) ∧ ∀ i, i < k → good S (ps i))) (fun i _ => m - (intOf i).toNat)
  case atStart => exact ⟨0, by omega, rfl, hF0, hB0, Lib.hid ⟨_, hG0, BArr.zero S, fun i hi => absurd hi (by omega)⟩⟩
  case round =>
    obtain ⟨k, hk, rfl, hF, hB, HC⟩ := hrel
    have zB := hB.size
    obtain ⟨C, hG, hA, hgd⟩ := HC.out
    have lG := hG.lt
    by_cases hlt : k < m
    · have okw : PcOk w (ps k) := by
        obtain ⟨_, _, _, _, _, h⟩ := R k hlt
        exact h
      obtain ⟨ad, rfl, hl, c0, c1, ok⟩ := (R.keep hB) k hlt
      obtain ⟨p, hp⟩ : ∃ p, ps k = p := ⟨_, rfl⟩
      have LS : laidTo (laid ps k) p p.n = laid ps (k + 1) := by rw [← hp]; rfl
      rw [hp] at c0 c1 ok okw
      have c1' := cell_next c1
      have HP := Lib.hid hp
      obtain ⟨wa, hnc, hcm, _⟩ := ok
      have RW := okw.2.2.2
      have b64 := bounds_i64 wa
      unfold maxLen at hcm
      by_cases g : good S p
      · obtain ⟨a, A', n', c', z⟩ := p
        obtain ⟨off, rfl⟩ := Int.eq_ofNat_of_zero_le g.1
        obtain ⟨g0, g1⟩ := g
        simp only at c0 c1' hnc hcm RW HP LS g0 g1 b64
        have HL := Lib.hid LS
        have GG : good S ⟨off, A', n', c', z⟩ := ⟨g0, g1⟩
        have d1 : decide ((off : Int) < 0) = false := decide_eq_false (by omega)
        have d2 : decide ((S : Int) < off) = false := decide_eq_false (by omega)
        have d3 : decide ((S : Int) - off < n') = false := decide_eq_false (by omega)
        clear hp c1 wa okw LS
        have hP0 := Blk.new wr 108 #[.int .i64 (off : Int), .slice A' n' c']
        have hG0 := hG.alloc (.cells #[.int .i64 (off : Int), .slice A' n' c'] 108)
        have hF0 := hF.alloc (.cells #[.int .i64 (off : Int), .slice A' n' c'] 108)
        have hB0 := hB.alloc zB (.cells #[.int .i64 (off : Int), .slice A' n' c'] 108)
        obtain ⟨wo, rfl⟩ : ∃ wo : World, wo = wr := ⟨_, rfl⟩
        go_wp2_with fail
        generalize hg0 : wo.alloc (.cells #[.int .i64 (off : Int), .slice A' n' c'] 108) = w2 at *
        have lP : w.heap.size + 1 < wo.heap.size := lG
        generalize wo.heap.size = gp at *
        clear hg0 c0 c1' hF hB hl zB lG hG
        go_loopw [9] (fun i wr => ∃ j : Nat, j ≤ n' ∧ i = .int .i64 j ∧ Blk wr w.heap.size 34 #[.int .i64 0, .int .i64 0] ∧ Blk wr gp 108 #[.int .i64 (off : Int), .slice A' n' c'] ∧ Below w.heap.size w wr ∧ Hid (∃ C, Blk wr (w.heap.size + 1) 5 (List.toArray C) ∧ BArr C S (laidTo (laid ps k) ⟨off, A', n', c', z⟩ j))) (fun i _ => n' - (intOf i).toNat)
        case atStart => exact ⟨0, by omega, rfl, hF0, hP0, hB0, Lib.hid ⟨_, hG0, by rw [laidTo_zero]; exact hA⟩⟩
        case round =>
          obtain ⟨j, hj, rfl, hF, hP, hB, HD⟩ := hrel
          obtain ⟨D, hG, hD⟩ := HD.out
          have p0 := hP.cell 0
          have p1 := hP.cell 1
          simp only [List.getElem?_toArray, List.getElem?_cons_zero, List.getElem?_cons_succ] at p0 p1
          by_cases hjl : j < n'
          · have i1 : (0 : Int) ≤ (j : Int) := by omega
            have i2 : (j : Int) < n' := by omega
            have i3 : IntKind.i64.wrap ((off : Int) + j) = off + j := IntWalk.i64_in _ (by omega)
            have i4 : (0 : Int) ≤ (off : Int) + j := by omega
            have i5 : (off : Int) + j < S := by omega
            have i6 : ((off : Int) + j).toNat = off + j := by omega
            obtain ⟨ae, rfl, hla, hca, _⟩ := (RW.keep hB) j hjl
            have s0 : wr.cell? ⟨w.heap.size + 1, off + j, none⟩ = some (.int .u8 (laidTo (laid ps k) ⟨off, some ae, n', c', z⟩ j (off + j))) := by
              rw [hG.cell]; simpa using hD.2 (off + j) (by omega)
            have s1 := hG.frozen (off + j)
            have hD2 := Lib.hid (hD.step (off := off) rfl (by omega))
            go_wp2_with fail
            go_still_tail 11, (by kernel_rfl)
            change wpList _ _ _ _ _ wr.drew
            have hG3 : Blk wr.drew (w.heap.size + 1) 5 D.toArray := hG
            have hF3 : Blk wr.drew w.heap.size 34 #[.int .i64 0, .int .i64 0] := hF
            have hP3 : Blk wr.drew gp 108 #[.int .i64 (off : Int), .slice (some ae) n' c'] := hP
            have hB3 : Below w.heap.size w wr.drew := hB.drew
            have s0' : wr.drew.cell? ⟨w.heap.size + 1, off + j, none⟩ = some (.int .u8 (laidTo (laid ps k) ⟨off, some ae, n', c', z⟩ j (off + j))) := s0
            have s1' : wr.drew.frozen? ⟨w.heap.size + 1, off + j, none⟩ = false := s1
            clear s0 s1 hca p0 p1
            generalize wr.drew = w3 at *
            go_wp2_with fail
            go_roundw
            case rel => exact ⟨j + 1, by omega, by go_num, hF3.far (by simp) _, hP3.far (by simp; omega) _, hB3.setCell (p := ⟨w.heap.size + 1, off + j, none⟩) (by simp) _, Lib.hid ⟨_, by have := hG3.set_ (off + j) (.int .u8 (z j)); rw [set_arr] at this; exact this, hD2.out⟩⟩
            case measure => simp [intOf]; omega
          · obtain rfl : j = n' := by omega
            rw [HL.out] at hD
            go_wp2_with fail
            go_roundw
            case rel => exact ⟨k + 1, by omega, by go_num, hF, hB, Lib.hid ⟨_, hG, hD, fun i hi => good_succ hgd (by rw [HP.out]; exact GG) i hi⟩⟩
            case measure => simp [intOf]; omega
      · have BG : ¬ good S (ps k) := by rw [hp]; exact g
        have hB2 : Below w.heap.size w (wr.alloc (.cells #[.int .i64 p.at_, .slice p.A p.n p.c] 108)) := hB.alloc zB _
        unfold good at g
        clear hp c1 wa okw RW LS
        obtain ⟨a, A', n', c', z⟩ := p
        simp only at c0 c1' hnc hcm g b64 hB2
        have hFV := hF.alloc (.cells #[.int .i64 a, .slice A' n' c'] 108)
        have f0 := hFV.cell 0
        have f1 := hFV.cell 1
        have fz := hFV.frozen
        simp only [List.getElem?_toArray, List.getElem?_cons_zero, List.getElem?_cons_succ] at f0 f1
        by_cases t1 : a < 0
        · clear g
          go_wp2_with fail
          refine bodyPost_ret (v := .tuple #[.slice none 0 0, .agg #[.int .i64 1, .int .i64 k]]) (by simp [results, Tryd.results53, go_sem, f0, f1]) rfl ?_
          exact ⟨(hB2.setCell (p := ⟨w.heap.size, 0, none⟩) (Nat.le_refl _) _).setCell (p := ⟨w.heap.size, 1, none⟩) (Nat.le_refl _) _, Or.inl ⟨k, hlt, BG, hgd, rfl⟩⟩
        · have d1 : decide (a < 0) = false := decide_eq_false t1
          by_cases t2 : (S : Int) < a
          · clear g t1
            go_wp2_with fail
            refine bodyPost_ret (v := .tuple #[.slice none 0 0, .agg #[.int .i64 1, .int .i64 k]]) (by simp [results, Tryd.results53, go_sem, f0, f1]) rfl ?_
            exact ⟨(hB2.setCell (p := ⟨w.heap.size, 0, none⟩) (Nat.le_refl _) _).setCell (p := ⟨w.heap.size, 1, none⟩) (Nat.le_refl _) _, Or.inl ⟨k, hlt, BG, hgd, rfl⟩⟩
          · have d2 : decide ((S : Int) < a) = false := decide_eq_false t2
            have a0 : 0 ≤ a := by omega
            have d3 : decide ((S : Int) - a < n') = true := decide_eq_true (by omega)
            clear g t1 t2
            go_wp2_with fail
            refine bodyPost_ret (v := .tuple #[.slice none 0 0, .agg #[.int .i64 1, .int .i64 k]]) (by simp [results, Tryd.results53, go_sem, f0, f1]) rfl ?_
            exact ⟨(hB2.setCell (p := ⟨w.heap.size, 0, none⟩) (Nat.le_refl _) _).setCell (p := ⟨w.heap.size, 1, none⟩) (Nat.le_refl _) _, Or.inl ⟨k, hlt, BG, hgd, rfl⟩⟩
    · obtain rfl : k = m := by omega
      have f0 := hF.cell 0
      have f1 := hF.cell 1
      have fz := hF.frozen
      simp only [List.getElem?_toArray, List.getElem?_cons_zero, List.getElem?_cons_succ] at f0 f1
      go_wp2_with fail
      have hG' : Blk ((wr.setCell ⟨w.heap.size, 0, none⟩ (.int .i64 0)).setCell ⟨w.heap.size, 1, none⟩ (.int .i64 0)) (w.heap.size + 1) 5 C.toArray := (hG.far (by simp) _).far (by simp) _
      have hB' : Below w.heap.size w ((wr.setCell ⟨w.heap.size, 0, none⟩ (.int .i64 0)).setCell ⟨w.heap.size, 1, none⟩ (.int .i64 0)) := (hB.setCell (p := ⟨w.heap.size, 0, none⟩) (Nat.le_refl _) _).setCell (p := ⟨w.heap.size, 1, none⟩) (Nat.le_refl _) _
      refine bodyPost_ret (v := .tuple #[.slice (some ⟨w.heap.size + 1, 0, none⟩) S S, .agg #[.int .i64 0, .int .i64 0]]) (by simp [results, Tryd.results53, go_sem, f0, f1]) rfl ?_
      exact ⟨hB', Or.inr ⟨hgd, _, C, rfl, by omega, hG', hA⟩⟩
end Go.Proofs.YtnhnphifhkkboaaDoor
