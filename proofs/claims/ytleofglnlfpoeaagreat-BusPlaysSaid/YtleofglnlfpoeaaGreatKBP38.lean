/-
  Texts of these proofs, one behind the other: Rb5, Cart2, Rb6.
-/
import Derived.Test.YtleofglnlfpoeaaGreatKBP37
import Derived.Deep.Cut
import Derived.Deep.CutRange
import Derived.Deep.CutBlock
import Derived.Deep.RegionHeld3
import Derived.Test.YtleofglnlfpoeaaGreatKBP27
import Derived.Test.YtleofglnlfpoeaaGreatKBP05
import Derived.Deep.QuietTactic
import Derived.BigQuiet
import Derived.StillTailTactics
import Derived.Test.YtleofglnlfpoeaaGreatKBP35
namespace Go.Proofs.YtleofglnlfpoeaaGreat
open Go.RowKit
set_option linter.unusedVariables false
set_option linter.unusedSimpArgs false
set_option maxRecDepth 100000
theorem Hp.ok_to {x : Hp} {d : Hd} (h : x.ok d) (t : Int) : (x.to d t).ok d := by
  unfold Hp.to
  split
  · exact h
  · rename_i hlt
    obtain ⟨o1, o2, o3, o4, o5, o6⟩ := h
    obtain ⟨k, e, hk, _⟩ := pass_ex (es := d.es) (t := t) o2
    refine ⟨Tm.go_ok o1 _, by dsimp only; rw [e]; exact hk, o3, ?_, o5, by dsimp only; omega⟩
    dsimp only
    split <;> exact o4
theorem row5 {w : World} {A : Option Addr} {l : List Acc} (Q : FRow w 5 A l.length (accF l)) (k : Nat) (hk : k < l.length) : ∃ (ad : Addr) (a : Acc), A = some ad ∧ l[k]? = some a ∧ ad.block < w.heap.size ∧ w.cell? (ad.add (k * 5)) = some (.int .i64 a.st) ∧
    w.cell? ⟨(ad.add (k * 5)).block, (ad.add (k * 5)).off + 1, none⟩ = some (.int .u32 a.ad) ∧ w.cell? ⟨(ad.add (k * 5)).block, (ad.add (k * 5)).off + 2, none⟩ = some (.int .u8 a.kd) ∧ w.cell? ⟨(ad.add (k * 5)).block, (ad.add (k * 5)).off + 3, none⟩ = some (.bool a.wr) ∧ w.cell? ⟨(ad.add (k * 5)).block, (ad.add (k * 5)).off + 4, none⟩ = some (.int .u8 a.dt) := by
  obtain ⟨ad, e, hl, hc⟩ := Q k hk
  have ha : l[k]? = some l[k] := List.getElem?_eq_getElem hk
  have f : ∀ j, j < 5 → w.cell? ((ad.add (k * 5)).add j) = some (accF l k j) := fun j hj => by
    have := hc j hj
    rw [← add_of_add] at this; exact this
  refine ⟨ad, l[k], e, ha, hl, ?_, ?_, ?_, ?_, ?_⟩
  · have h := hc 0 (by decide); rw [show accF l k 0 = .int .i64 l[k].st by simp [accF, ha, accC]] at h; exact h
  · have h := f 1 (by decide); rw [show accF l k 1 = .int .u32 l[k].ad by simp [accF, ha, accC]] at h; exact h
  · have h := f 2 (by decide); rw [show accF l k 2 = .int .u8 l[k].kd by simp [accF, ha, accC]] at h; exact h
  · have h := f 3 (by decide); rw [show accF l k 3 = .bool l[k].wr by simp [accF, ha, accC]] at h; exact h
  · have h := f 4 (by decide); rw [show accF l k 4 = .int .u8 l[k].dt by simp [accF, ha, accC]] at h; exact h
set_option maxHeartbeats 4000000 in
theorem rsame_any {w : World} {A B : Option Addr} {c c2 : Nat} {l : List Acc} (Q : FRow w 5 A l.length (accF l)) (R : FRow w 5 B l.length (accF l)) (hl : l.length ≤ 1000000) :
    Calls Tryz.prog 15 #[.slice A l.length c, .slice B l.length c2] w fun e w' => e = .returned (.bool true) ∧ Below w.heap.size w w' := by
  have HQ := Lib.hid Q
  have HR := Lib.hid R
  obtain ⟨n, hn⟩ : ∃ n, l.length = n := ⟨_, rfl⟩
  rw [hn] at hl ⊢
  have HN := Lib.hid hn
  clear Q R hn
  go_enter Tryz.func15, Tryz.ntmps15
  go_wp2_with fail
  go_loopw [5] (fun i wr => ∃ k : Nat, k ≤ n ∧ i = .int .i64 k ∧ Below w.heap.size w wr) (fun i _ => n - (intOf i).toNat)
  case atStart => exact ⟨0, Nat.zero_le _, rfl, Below.refl _ _⟩
  case round =>
    obtain ⟨k, hk, rfl, hb⟩ := hrel
    have HB := Lib.hid hb
    by_cases hlt : k < n
    · obtain ⟨ad, a, rfl, ea, hla, q0, q1, q2, q3, q4⟩ := row5 (FRow.keep HQ.out hb) k (by rw [HN.out]; exact hlt)
      obtain ⟨ad2, a2, rfl, ea2, hlb, r0, r1, r2, r3, r4⟩ := row5 (FRow.keep HR.out hb) k (by rw [HN.out]; exact hlt)
      obtain rfl : a = a2 := by rw [ea] at ea2; exact Option.some.inj ea2
      have i0 : (0 : Int) ≤ (k : Int) := by omega
      have i1 : (k : Int) < n := by omega
      clear hb ea ea2 hla hlb
      go_upto_region 6 with fail
      refine rg_begin (S := fun w' => (w'.cell? (ad.add (k * 5)) = some (.int .i64 a.st) ∧ w'.cell? ⟨(ad.add (k * 5)).block, (ad.add (k * 5)).off + 1, none⟩ = some (.int .u32 a.ad) ∧ w'.cell? ⟨(ad.add (k * 5)).block, (ad.add (k * 5)).off + 2, none⟩ = some (.int .u8 a.kd) ∧ w'.cell? ⟨(ad.add (k * 5)).block, (ad.add (k * 5)).off + 3, none⟩ = some (.bool a.wr) ∧ w'.cell? ⟨(ad.add (k * 5)).block, (ad.add (k * 5)).off + 4, none⟩ = some (.int .u8 a.dt)) ∧ (w'.cell? (ad2.add (k * 5)) = some (.int .i64 a.st) ∧ w'.cell? ⟨(ad2.add (k * 5)).block, (ad2.add (k * 5)).off + 1, none⟩ = some (.int .u32 a.ad) ∧ w'.cell? ⟨(ad2.add (k * 5)).block, (ad2.add (k * 5)).off + 2, none⟩ = some (.int .u8 a.kd) ∧ w'.cell? ⟨(ad2.add (k * 5)).block, (ad2.add (k * 5)).off + 3, none⟩ = some (.bool a.wr) ∧ w'.cell? ⟨(ad2.add (k * 5)).block, (ad2.add (k * 5)).off + 4, none⟩ = some (.int .u8 a.dt))) 9 #[false, false, false, false, false, false, false, false, false] (by kernel_rfl) (by kernel_rfl) (by kernel_rfl) ?_ (fun hHeld => ?_)
      · exact ⟨⟨q0, q1, q2, q3, q4⟩, r0, r1, r2, r3, r4⟩
      refine rgt 0 (some 17) (v := ?_) rfl ?_ ?_
      rotate_left 1
      · (intro wS hSw; (try dsimp only at hSw); go_simp; try with_reducible rfl)
      refine rgt 1 (some 18) (v := ?_) rfl ?_ ?_
      rotate_left 1
      · (intro wS hSw; (try dsimp only at hSw); go_simp; try with_reducible rfl)
      refine rgt 2 (some 19) (v := ?_) rfl ?_ ?_
      rotate_left 1
      · (intro wS hSw; (try dsimp only at hSw); go_simp; try with_reducible rfl)
      refine rgt 3 (some 20) (v := ?_) rfl ?_ ?_
      rotate_left 1
      · (intro wS hSw; (try dsimp only at hSw); go_simp; try with_reducible rfl)
      refine rgt 4 (some 21) (v := ?_) rfl ?_ ?_
      rotate_left 1
      · (intro wS hSw; (try dsimp only at hSw); go_simp; try with_reducible rfl)
      refine rgt 5 (some 22) (v := ?_) rfl ?_ ?_
      rotate_left 1
      · (intro wS hSw; (try dsimp only at hSw); go_simp; try with_reducible rfl)
      refine rgt 6 (some 23) (v := ?_) rfl ?_ ?_
      rotate_left 1
      · (intro wS hSw; (try dsimp only at hSw); go_simp; try with_reducible rfl)
      refine rgt 7 (some 24) (v := ?_) rfl ?_ ?_
      rotate_left 1
      · (intro wS hSw; (try dsimp only at hSw); go_simp; try with_reducible rfl)
      refine rgt 8 (some 25) (v := ?_) rfl ?_ ?_
      rotate_left 1
      · (intro wS hSw; (try dsimp only at hSw); go_simp; try with_reducible rfl)
      try simp only [Act.put, List.setIfInBounds_toArray, List.set_cons_zero, List.set_cons_succ]
      refine wpAnyH_done (by kernel_rfl) ?_ _
      clear hHeld q0 q1 q2 q3 q4 r0 r1 r2 r3 r4
      go_wp2_with fail
      go_roundw
      case rel => exact ⟨k + 1, by omega, by go_num, HB.out.drew⟩
      case measure => simp [intOf]; omega
    · obtain rfl : k = n := by omega
      go_wp2_with fail
      go_ret
      exact ⟨rfl, HB.out⟩
end Go.Proofs.YtleofglnlfpoeaaGreat
namespace Go.Proofs.YtleofglnlfpoeaaGreat
open Go.RowKit
set_option linter.unusedVariables false
/-- What becomes of a call that lays pieces into an image of S bytes. -/
def MakeR (ps : Nat → Pc) (m S : Nat) (w : World) (e : Ending) (w' : World) : Prop :=
  Below w.heap.size w w' ∧ ((∃ j, j < m ∧ ¬ good S (ps j) ∧ (∀ i, i < j → good S (ps i)) ∧ e = .returned (.tuple #[.slice none 0 0, .agg #[.int .i64 1, .int .i64 j]])) ∨
    ((∀ i, i < m → good S (ps i)) ∧ ∃ g C, e = .returned (.tuple #[.slice (some ⟨g, 0, none⟩) S S, .agg #[.int .i64 0, .int .i64 0]]) ∧ w.heap.size ≤ g ∧ Blk w' g 5 (List.toArray C) ∧ BArr C S (laid ps m)))
theorem u8_info : (Tryz.prog.info? 5).map (fun i => (i.zero, i.size, i.bytes)) = some (some (.int .u8 0), 1, 1) := by kernel_rfl
set_option maxRecDepth 100000 in
theorem make_bytes (n : Nat) (hn : n ≤ 16777216) (w : World) : (Instr.makeSlice 22 (.int .i64 (n : Int)) (.int .i64 (n : Int))).run Tryz.prog w = .ok (.slice (some ⟨w.heap.size, 0, none⟩) n n) (w.alloc (.cells (Array.replicate n (.int .u8 0)) 5)) := by
  obtain ⟨i, hi, hzz⟩ := Option.map_eq_some_iff.1 u8_info
  simp only [Prod.mk.injEq] at hzz
  obtain ⟨hz, hs, hb⟩ := hzz
  have h := run_makeSlice (P := Tryz.prog) w 22 5 i _ Tryz.underlying22 hi hz .i64 .i64 n n (by omega) (by omega) (by rw [hs]; simp; omega) (by rw [hb]; omega) (by omega)
  rw [h]
  simp only [Int.toNat_natCast, hs, Nat.mul_one]
  congr 3
  unfold madeCells
  apply Array.ext
  · simp
  · intro i h1 h2; simp [Value.cells, Nat.mod_one]
theorem _root_.Go.RowKit.Below.grown_ {B C : Nat} {a w w' : World} (h : Below B a w) (q : Below C w w') (hBC : B ≤ C := by omega) : Below B a w' := h.trans (q.mono hBC)
theorem good_succ {S : Int} {ps : Nat → Pc} {k : Nat} (h : ∀ i, i < k → good S (ps i)) (g : good S (ps k)) (i : Nat) (hi : i < k + 1) : good S (ps i) := by
  rcases Nat.lt_or_ge i k with a | a
  · exact h i a
  · rw [show i = k by omega]; exact g
theorem IRow.src {w : World} {A : Option Addr} {n : Nat} {z : Nat → Int} (h : IRow w .u8 A n z) (hn : 0 < n) : ∃ ad, A = some ad ∧ ∀ j v, (bytesOf z n)[j]? = some v → w.cell? (ad.add j) = some v := by
  obtain ⟨ad, e, _, _, _⟩ := h 0 hn
  refine ⟨ad, e, fun j v hv => ?_⟩
  have hj : j < n := by have := (List.getElem?_eq_some_iff.1 hv).1; rwa [bytesOf_len] at this
  rw [bytesOf_at z n j hj] at hv
  injection hv with hv
  subst hv
  obtain ⟨ae, e2, _, hc, _⟩ := h j hj
  rw [e] at e2
  injection e2 with e2
  subst e2
  exact hc
set_option maxRecDepth 100000 in
set_option maxHeartbeats 2000000 in
theorem make_any (n : Int) (S : Nat) (A : Option Addr) (m c : Nat) (ps : Nat → Pc) (w : World) (h : mayB n = true) (hS : (S : Int) = n * 8192) (hm : m ≤ maxLen) (R : PRow w A m ps) :
    Calls Tryz.prog 83 #[.int .i64 n, .slice A m c] w (MakeR ps m S w) := by
  have hn : 1 ≤ n ∧ n ≤ 128 := of_decide_eq_true h
  have hs1 : S ≤ 1048576 := by omega
  have HS := Lib.hid hS
  unfold maxLen at hm
  have MB := make_bytes S (by omega)
  have e1 : n * 8192 = (S : Int) := hS.symm
  clear hS
  go_enter Tryz.func83, Tryz.ntmps83
  go_wp2_with (go_at_call 134; refine (may_any _ _).mono ?_; rintro e w' ⟨rfl, rfl⟩)
  have hF0 : Blk ((w.alloc (.cells #[.int .i64 0, .int .i64 0] 34)).alloc (.cells (Array.replicate S (.int .u8 0)) 5)) w.heap.size 34 #[.int .i64 0, .int .i64 0] := (Blk.new w _ _).alloc _
  have hG0 : Blk ((w.alloc (.cells #[.int .i64 0, .int .i64 0] 34)).alloc (.cells (Array.replicate S (.int .u8 0)) 5)) (w.heap.size + 1) 5 (List.toArray (List.replicate S (.int .u8 0))) := by
    have := Blk.new (w.alloc (.cells #[.int .i64 0, .int .i64 0] 34)) 5 (Array.replicate S (.int .u8 0))
    simpa using this
  have hB0 : Below w.heap.size w ((w.alloc (.cells #[.int .i64 0, .int .i64 0] 34)).alloc (.cells (Array.replicate S (.int .u8 0)) 5)) := by go_grown
  generalize (w.alloc (.cells #[.int .i64 0, .int .i64 0] 34)).alloc (.cells (Array.replicate S (.int .u8 0)) 5) = w1 at *
  clear MB e1
  go_loopw [18] (fun i wr => ∃ k : Nat, k ≤ m ∧ i = .int .i64 k ∧ Blk wr w.heap.size 34 #[.int .i64 0, .int .i64 0] ∧ Below w.heap.size w wr ∧ Hid (∃ C, Blk wr (w.heap.size + 1) 5 (List.toArray C) ∧ BArr C S (laid ps k) ∧ ∀ i, i < k → good S (ps i))) (fun i _ => m - (intOf i).toNat)
  case atStart => exact ⟨0, by omega, rfl, hF0, hB0, Lib.hid ⟨_, hG0, BArr.zero S, fun i hi => absurd hi (by omega)⟩⟩
  case round =>
    obtain ⟨k, hk, rfl, hF, hB, HC⟩ := hrel
    have zB := hB.size
    obtain ⟨C, hG, hA, hgd⟩ := HC.out
    have lG := hG.lt
    have f0 := hF.cell 0
    have f1 := hF.cell 1
    have fz := hF.frozen
    simp only [List.getElem?_toArray, List.getElem?_cons_zero, List.getElem?_cons_succ] at f0 f1
    by_cases hlt : k < m
    · obtain ⟨ad, rfl, hl, c0, c1, ok⟩ := (R.keep hB) k hlt
      obtain ⟨p, hp⟩ : ∃ p, ps k = p := ⟨_, rfl⟩
      have hA' : good S p → BArr (splice C p.at_.toNat (bytesOf p.z p.n)) S (laid ps (k + 1)) := by rw [← hp]; exact hA.lay
      rw [hp] at c0 c1 ok
      have c1' := cell_next c1
      have HP := Lib.hid hp
      obtain ⟨wa, hnc, hcm, RB⟩ := ok
      have b64 := bounds_i64 wa
      unfold maxLen at hcm
      by_cases g : good S p
      · obtain ⟨a, A', n', c', z⟩ := p
        obtain ⟨off, rfl⟩ := Int.eq_ofNat_of_zero_le g.1
        have hA2 := hA' g
        obtain ⟨g0, g1⟩ := g
        simp only at c0 c1' hA2 hnc hcm RB HP g0 g1 b64
        have HA2 := Lib.hid hA2
        have GG : good S ⟨off, A', n', c', z⟩ := ⟨g0, g1⟩
        clear hA2 hp c1 wa hA'
        go_wp2_with fail
        refine (within_yes ⟨off, A', n', c', z⟩ S _ (by omega) (by omega) GG (by show n' ≤ maxLen; unfold maxLen; omega)).mono ?_
        rintro e w2 ⟨rfl, hb2⟩
        have hP2 := (Blk.new wr 131 #[.int .i64 (off : Int), .slice A' n' c']).below hb2 (by simp)
        have hG2 := (hG.alloc _).below hb2 (by simp; omega)
        have hF2 := (hF.alloc _).below hb2 (by simp; omega)
        have RB2 := (RB.keep ((Below.refl wr.heap.size wr).alloc (Nat.le_refl _) (.cells #[.int .i64 (off : Int), .slice A' n' c'] 131))).keep hb2
        have hB2 : Below w.heap.size w w2 := (hB.alloc zB _).trans (hb2.mono (by simp; omega))
        have p0 := hP2.cell 0
        have p1 := hP2.cell 1
        simp only [List.getElem?_toArray, List.getElem?_cons_zero, List.getElem?_cons_succ] at p0 p1
        have k0 : (off : Int) ≤ S := by omega
        clear hb2 f0 f1 fz RB c0 c1' hP2
        go_wp2_with fail
        by_cases hoS : off = S
        · subst hoS
          obtain rfl : n' = 0 := by omega
          go_still_tail 6, (by kernel_rfl)
          change wpList _ _ _ _ _ w2.drew
          have hG3 : Blk w2.drew (w.heap.size + 1) 5 C.toArray := hG2
          have hF3 : Blk w2.drew w.heap.size 34 #[.int .i64 0, .int .i64 0] := hF2
          have hB3 : Below w.heap.size w w2.drew := hB2.drew
          generalize w2.drew = w3 at *
          refine wpList_copy_splice rfl (.tmp 33) (.tmp 35) 22 22 rfl 5 Tryz.underlying22 (by kernel_rfl) _ _ _ _ _ _ rfl rfl (w.heap.size + 1) off C 5 hG3 (bytesOf z 0) (by simp [bytesOf]) (fun h => by simp [bytesOf] at h) (by rw [bytesOf_len, hA.1]; omega) (bytesOf_one _ _) (w.heap.size + 1) w3 (Below.refl _ _) (Nat.le_refl _) ?_
          intro w4 HG4 hB4
          have hG4 : Blk w4 (w.heap.size + 1) 5 (splice C off (bytesOf z 0)).toArray := HG4
          have hF4 := hF3.below hB4 (by omega)
          have hB5 := (hB3.grown_ hB4)
          go_wp2_with fail
          go_roundw
          case rel => exact ⟨k + 1, by omega, by go_num, hF4, hB5, Lib.hid ⟨_, hG4, HA2.out, fun i hi => good_succ hgd (by rw [HP.out]; exact GG) i hi⟩⟩
          case measure => simp [intOf]; omega
        · have hne : ¬ S = off := fun h => hoS h.symm
          go_still_tail 6, (by kernel_rfl)
          change wpList _ _ _ _ _ w2.drew
          have hG3 : Blk w2.drew (w.heap.size + 1) 5 C.toArray := hG2
          have hF3 : Blk w2.drew w.heap.size 34 #[.int .i64 0, .int .i64 0] := hF2
          have hB3 : Below w.heap.size w w2.drew := hB2.drew
          have RB3 : IRow w2.drew .u8 A' n' z := RB2
          generalize w2.drew = w3 at *
          refine wpList_copy_splice rfl (.tmp 33) (.tmp 35) 22 22 rfl 5 Tryz.underlying22 (by kernel_rfl) _ _ _ _ _ _ rfl rfl (w.heap.size + 1) off C 5 hG3 (bytesOf z n') (by rw [bytesOf_len]; exact (Nat.min_eq_left (by omega)).symm) (fun h => ⟨rfl, RB3.src (by rw [bytesOf_len] at h; exact h)⟩) (by rw [bytesOf_len, hA.1]; omega) (bytesOf_one _ _) (w.heap.size + 1) w3 (Below.refl _ _) (Nat.le_refl _) ?_
          intro w4 HG4 hB4
          have hG4 : Blk w4 (w.heap.size + 1) 5 (splice C off (bytesOf z n')).toArray := HG4
          have hF4 := hF3.below hB4 (by omega)
          have hB5 := (hB3.grown_ hB4)
          go_wp2_with fail
          go_roundw
          case rel => exact ⟨k + 1, by omega, by go_num, hF4, hB5, Lib.hid ⟨_, hG4, HA2.out, fun i hi => good_succ hgd (by rw [HP.out]; exact GG) i hi⟩⟩
          case measure => simp [intOf]; omega
      · have BG : ¬ good S (ps k) := by rw [hp]; exact g
        go_wp2_with fail
        refine (within_no p S _ (by omega) (by omega) g (by unfold maxLen; omega) (by omega)).mono ?_
        rintro e w2 ⟨rfl, hb2⟩
        have hF2 := (hF.alloc (.cells #[.int .i64 p.at_, .slice p.A p.n p.c] 131)).below hb2 (by simp; omega)
        have hB2 : Below w.heap.size w w2 := (hB.alloc zB _).trans (hb2.mono (by simp; omega))
        clear f0 f1 fz c0 c1 c1' hb2
        have f0 := hF2.cell 0
        have f1 := hF2.cell 1
        have fz := hF2.frozen
        simp only [List.getElem?_toArray, List.getElem?_cons_zero, List.getElem?_cons_succ] at f0 f1
        go_wp2_with fail
        refine bodyPost_ret (v := .tuple #[.slice none 0 0, .agg #[.int .i64 1, .int .i64 k]]) (by simp [results, Tryz.results83, go_sem, f0, f1]) rfl ?_
        exact ⟨(hB2.setCell (p := ⟨w.heap.size, 0, none⟩) (Nat.le_refl _) _).setCell (p := ⟨w.heap.size, 1, none⟩) (Nat.le_refl _) _, Or.inl ⟨k, hlt, BG, hgd, rfl⟩⟩
    · obtain rfl : k = m := by omega
      go_wp2_with fail
      have hG' : Blk ((wr.setCell ⟨w.heap.size, 0, none⟩ (.int .i64 0)).setCell ⟨w.heap.size, 1, none⟩ (.int .i64 0)) (w.heap.size + 1) 5 C.toArray := (hG.far (by simp) _).far (by simp) _
      have hB' : Below w.heap.size w ((wr.setCell ⟨w.heap.size, 0, none⟩ (.int .i64 0)).setCell ⟨w.heap.size, 1, none⟩ (.int .i64 0)) := (hB.setCell (p := ⟨w.heap.size, 0, none⟩) (Nat.le_refl _) _).setCell (p := ⟨w.heap.size, 1, none⟩) (Nat.le_refl _) _
      refine bodyPost_ret (v := .tuple #[.slice (some ⟨w.heap.size + 1, 0, none⟩) S S, .agg #[.int .i64 0, .int .i64 0]]) (by simp [results, Tryz.results83, go_sem, f0, f1]) rfl ?_
      exact ⟨hB', Or.inr ⟨hgd, _, C, rfl, by omega, hG', hA⟩⟩
end Go.Proofs.YtleofglnlfpoeaaGreat
namespace Go.Proofs.YtleofglnlfpoeaaGreat
open Go.RowKit
set_option linter.unusedVariables false
set_option linter.unusedSimpArgs false
set_option maxRecDepth 100000
def RbNewR (W : World) (d : Hd) (Q : Rbp → Prop) (s : Bs) (w : World) (g : Nat) (w' : World) : Prop :=
  ∃ q, Q q ∧ RBU W w' g d q s false ∧ Below w.heap.size w w' ∧ w.heap.size ≤ g ∧ w.heap.size ≤ q.m ∧ w.heap.size ≤ q.c ∧ q.tr = .slice none 0 0
section
variable {W w w3 : World} {p : Nat} {d : Hd} {J : Rr} {Z : Rz} {x : Hp} {A : Option Addr} {n c : Nat} {z : Nat → Int} {bu : Int} {rv : Value} {m k : Nat}
theorem bud_lo (h1 : bu < 0) : bud bu = 0 := by unfold bud; (repeat' split) <;> omega
theorem bud_hi (h1 : ¬ bu < 0) (h2 : 1099511627776 < bu) : bud bu = 1099511627776 := by unfold bud; (repeat' split) <;> omega
theorem bud_in (h1 : ¬ bu < 0) (h2 : ¬ 1099511627776 < bu) : bud bu = bu := by unfold bud; (repeat' split) <;> omega
theorem zeros_at : BAt (List.replicate 8192 (.int .u8 0)) (fun _ => 0) := fun i hi => by rw [List.getElem?_replicate, if_pos hi]
theorem rbnew_mk (bw : Below W.heap.size W w) (hm : Blk w3 m 5 (Array.replicate 8192 (.int .u8 0))) (hk : Blk w3 k 142 (rk (heldI 0) 0 false false false)) (hp : RHp w3 p d J Z x) (hb : Below w.heap.size w w3)
    (m0 : w.heap.size ≤ m) (k0 : w.heap.size ≤ k) (hnew : ∀ y ∈ J.all p, W.heap.size ≤ y) (R : IRow W .u8 A n z) (hnc : n ≤ c ∧ c ≤ maxLen) {b : Int} (eb : bud bu = b) :
    RbNewR W d (fun q => q.p = p ∧ q.J = J ∧ q.Z = Z ∧ q.A = A ∧ q.ca = c) (Bs.new rv n z x bu) w w3.heap.size (w3.alloc (.cells #[.slice A n c, .slice (some ⟨m, 0, none⟩) 8192 8192, .pointer (some ⟨p, 0, none⟩), .pointer (some ⟨k, 0, none⟩), .int .i64 b, .bool false, .slice none 0 0] 54)) := by
  have ka : Kp [] w3 (w3.alloc (.cells #[.slice A n c, .slice (some ⟨m, 0, none⟩) 8192 8192, .pointer (some ⟨p, 0, none⟩), .pointer (some ⟨k, 0, none⟩), .int .i64 b, .bool false, .slice none 0 0] 54)) := (Kp.refl _ _).alloc _
  have hW := bw.size
  have hw := hb.size
  subst eb
  refine ⟨⟨A, c, m, 8192, p, J, Z, k, .slice none 0 0⟩, ⟨rfl, rfl, rfl, rfl, rfl⟩, ⟨Blk.new_ rfl, ⟨List.replicate 8192 (.int .u8 0), ?_, zeros_at⟩, (hk.alloc _), hp.kp0 ka, World.ownsRow_nil _ _ _ _, (bw.trans (hb.mono hW)).alloc (by omega) _, ?_, R, (fun h => by cases h), ⟨Nat.le_refl _, by show 8192 ≤ maxLen; unfold maxLen; omega, hnc.1, hnc.2⟩⟩, hb.alloc (by omega) _, by omega, m0, k0, rfl⟩
  · rw [List.toArray_replicate]; exact hm.alloc _
  · intro y hy
    rcases mem_rbL.1 hy with e | e | e | e | e
    · rw [e]; omega
    · rw [e]; show W.heap.size ≤ m; omega
    · rw [e]; show W.heap.size ≤ k; omega
    · exact hnew y e
    · cases e
set_option maxHeartbeats 8000000 in
theorem rbnew_any (hp : RHp w p d J Z x) (bw : Below W.heap.size W w) (hnew : ∀ y ∈ J.all p, W.heap.size ≤ y) (R : IRow W .u8 A n z) (hnc : n ≤ c ∧ c ≤ maxLen) (rv : Value) (b0 : -9223372036854775808 ≤ bu) (b1 : bu ≤ 9223372036854775807) :
    Calls Tryz.prog 8 #[.slice A n c, .pointer (some ⟨p, 0, none⟩), .int .i64 bu] w fun e w' => ∃ g, e = .returned (.pointer (some ⟨g, 0, none⟩)) ∧ RbNewR W d (fun q => q.p = p ∧ q.J = J ∧ q.Z = Z ∧ q.A = A ∧ q.ca = c) (Bs.new rv n z x bu) w g w' := by
  have MB : ∀ W : World, (Instr.makeSlice 22 (.int .i64 8192) (.int .i64 8192)).run Tryz.prog W = .ok (.slice (some ⟨W.heap.size, 0, none⟩) 8192 8192) (W.alloc (.cells (Array.replicate 8192 (.int .u8 0)) 5)) := fun W => make_bytes 8192 (by decide) W
  have HP := Lib.hid hp
  have BW := Lib.hid bw
  have HNEW := Lib.hid hnew
  have HROW := Lib.hid R
  clear hp bw hnew R
  by_cases h1 : bu < 0
  · have eb : bud bu = 0 := bud_lo h1
    have EB := Lib.hid eb
    clear eb
    go_enter Tryz.func8, Tryz.ntmps8
    go_upto_region 5 with fail
    refine rg_begin (S := fun w' => True) 8 #[false, false, false, false, false, false, false, false] (by kernel_rfl) (by kernel_rfl) (by kernel_rfl) ?_ (fun hHeld => ?_)
    · all_goals trivial
    obtain ⟨sz, hsz⟩ : ∃ sz, w.drew.heap.size = sz := ⟨_, rfl⟩
    have BD : Hid (w.heap.size = sz) := Lib.hid hsz
    have B0 : Hid (Below w.heap.size w w.drew) := Lib.hid ((Below.refl _ _).drew)
    have HP0 := Lib.hid (HP.out.kp0 (Kp.refl [] _).drew)
    generalize World.drew w = wD at *
    refine rgt 0 (some 11) (v := ?_) rfl ?_ ?_
    rotate_left 1
    · (intro wS hSw; (try dsimp only at hSw); go_simp; try with_reducible rfl)
    refine rgt 2 (some 13) (v := ?_) rfl ?_ ?_
    rotate_left 1
    · (intro wS hSw; (try dsimp only at hSw); go_simp; try with_reducible rfl)
    refine rgt 4 (some 15) (v := ?_) rfl ?_ ?_
    rotate_left 1
    · (intro wS hSw; (try dsimp only at hSw); go_simp; try with_reducible rfl)
    try simp only [Act.put, List.setIfInBounds_toArray, List.set_cons_zero, List.set_cons_succ]
    refine rg_of (rs := [1, 3]) (fuel := 4) (by kernel_rfl) rfl ?_
    refine rg_step (i := 1) (l := #[true, true, true, false, true, false, false, false]) rfl (by kernel_rfl) (by kernel_rfl) ?_ ?_
    · intro K hK
      go_simp
      skip
      first | (refine hK.out _ _ ?_ (fun hHeld => ?_)) | (go_wp2_with fail; refine hK.out _ _ ?_ (fun hHeld => ?_))
      · (try dsimp only); all_goals trivial
      clear hK K
      try simp only [Act.put, List.setIfInBounds_toArray, List.set_cons_zero, List.set_cons_succ]
      have HM1 := Lib.hid (Blk.new wD 5 (Array.replicate 8192 (.int .u8 0)))
      have B1 := Lib.hid (B0.out.alloc B0.out.size (.cells (Array.replicate 8192 (.int .u8 0)) 5))
      have HP1 := Lib.hid (HP0.out.kp0 ((Kp.refl _ _).alloc (.cells (Array.replicate 8192 (.int .u8 0)) 5)))
      rw [hsz] at HM1
      generalize World.alloc wD _ = w1 at *
      refine rg_next (i := 3) (l := #[true, true, true, true, true, false, false, false]) (fuel := 3) (by kernel_rfl) rfl (by kernel_rfl) (by kernel_rfl) (fun K hK => ?_)
      go_simp
      (go_at_call 43)
      refine (rat_new 0 false _).mono ?_
      rintro e w2 ⟨rfl, hk2, b2⟩
      obtain ⟨ck, hck⟩ : ∃ ck, w1.heap.size = ck := ⟨_, rfl⟩
      rw [hck] at hk2
      have B2 := Lib.hid (B1.out.trans (b2.mono B1.out.size))
      have HM2 := Lib.hid (HM1.out.below b2 HM1.out.lt)
      have HP2 := Lib.hid (HP1.out.keep b2)
      have HK2 := Lib.hid hk2
      have HC2 : Hid (w.heap.size ≤ ck) := Lib.hid (hck ▸ B1.out.size)
      clear b2 hk2
      first | (refine hK.out _ _ ?_ (fun hHeld => ?_)) | (go_wp2_with fail; refine hK.out _ _ ?_ (fun hHeld => ?_))
      · (try dsimp only); all_goals trivial
      clear hK K
      refine rgt 5 (some 16) (v := ?_) rfl ?_ ?_
      rotate_left 1
      · (intro wS hSw; (try dsimp only at hSw); go_simp; try with_reducible rfl)
      try simp only [Act.put, List.setIfInBounds_toArray, List.set_cons_zero, List.set_cons_succ]
      have H6 := Lib.hid (rbnew_mk (w := w) (W := W) (rv := rv) (bu := bu) BW.out HM2.out HK2.out HP2.out B2.out (by rw [BD.out]; exact Nat.le_refl _) (by rw [BD.out]; exact (BD.out ▸ HC2.out)) HNEW.out HROW.out hnc EB.out)
      clear HM2 HK2 HP2 B2
      refine rg_next (i := 6) (l := #[true, true, true, true, true, true, true, false]) (fuel := 1) (by kernel_rfl) rfl (by kernel_rfl) (by kernel_rfl) (fun K hK => ?_)
      go_simp
      skip
      first | (refine hK.out _ _ ?_ (fun hHeld => ?_)) | (go_wp2_with fail; refine hK.out _ _ ?_ (fun hHeld => ?_))
      · (try dsimp only); all_goals trivial
      clear hK K
      refine rgt 7 (some 6) (v := ?_) rfl ?_ ?_
      rotate_left 1
      · (intro wS hSw; (try dsimp only at hSw); go_simp; try with_reducible rfl)
      try simp only [Act.put, List.setIfInBounds_toArray, List.set_cons_zero, List.set_cons_succ]
      refine wpAnyH_done (by kernel_rfl) ?_ _
      go_wp2_with fail
      go_ret
      exact ⟨_, rfl, H6.out⟩
    refine rg_step (i := 3) (l := #[true, false, true, true, true, false, false, false]) rfl (by kernel_rfl) (by kernel_rfl) ?_ ?_
    · intro K hK
      go_simp
      (go_at_call 43)
      refine (rat_new 0 false _).mono ?_
      rintro e w1 ⟨rfl, hk1, b1⟩
      rw [hsz] at hk1
      have B1 := Lib.hid (B0.out.trans (b1.mono B0.out.size))
      have HP1 := Lib.hid (HP0.out.keep b1)
      have HK1 := Lib.hid hk1
      clear b1 hk1
      first | (refine hK.out _ _ ?_ (fun hHeld => ?_)) | (go_wp2_with fail; refine hK.out _ _ ?_ (fun hHeld => ?_))
      · (try dsimp only); all_goals trivial
      clear hK K
      try simp only [Act.put, List.setIfInBounds_toArray, List.set_cons_zero, List.set_cons_succ]
      refine rg_next (i := 1) (l := #[true, true, true, true, true, false, false, false]) (fuel := 3) (by kernel_rfl) rfl (by kernel_rfl) (by kernel_rfl) (fun K hK => ?_)
      go_simp
      skip
      first | (refine hK.out _ _ ?_ (fun hHeld => ?_)) | (go_wp2_with fail; refine hK.out _ _ ?_ (fun hHeld => ?_))
      · (try dsimp only); all_goals trivial
      clear hK K
      try simp only [Act.put, List.setIfInBounds_toArray, List.set_cons_zero, List.set_cons_succ]
      obtain ⟨ms, hms⟩ : ∃ ms, w1.heap.size = ms := ⟨_, rfl⟩
      have HC2 : Hid (w.heap.size ≤ ms) := Lib.hid (hms ▸ B1.out.size)
      have HM2 := Lib.hid (Blk.new w1 5 (Array.replicate 8192 (.int .u8 0)))
      rw [hms] at HM2
      have B2 := Lib.hid (B1.out.alloc B1.out.size (.cells (Array.replicate 8192 (.int .u8 0)) 5))
      have HP2 := Lib.hid (HP1.out.kp0 ((Kp.refl _ _).alloc (.cells (Array.replicate 8192 (.int .u8 0)) 5)))
      have HK2 := Lib.hid (HK1.out.alloc (.cells (Array.replicate 8192 (.int .u8 0)) 5))
      generalize World.alloc w1 _ = w2 at *
      refine rgt 5 (some 16) (v := ?_) rfl ?_ ?_
      rotate_left 1
      · (intro wS hSw; (try dsimp only at hSw); go_simp; try with_reducible rfl)
      try simp only [Act.put, List.setIfInBounds_toArray, List.set_cons_zero, List.set_cons_succ]
      have H6 := Lib.hid (rbnew_mk (w := w) (W := W) (rv := rv) (bu := bu) BW.out HM2.out HK2.out HP2.out B2.out (by rw [BD.out]; exact (BD.out ▸ HC2.out)) (by rw [BD.out]; exact Nat.le_refl _) HNEW.out HROW.out hnc EB.out)
      clear HM2 HK2 HP2 B2
      refine rg_next (i := 6) (l := #[true, true, true, true, true, true, true, false]) (fuel := 1) (by kernel_rfl) rfl (by kernel_rfl) (by kernel_rfl) (fun K hK => ?_)
      go_simp
      skip
      first | (refine hK.out _ _ ?_ (fun hHeld => ?_)) | (go_wp2_with fail; refine hK.out _ _ ?_ (fun hHeld => ?_))
      · (try dsimp only); all_goals trivial
      clear hK K
      refine rgt 7 (some 6) (v := ?_) rfl ?_ ?_
      rotate_left 1
      · (intro wS hSw; (try dsimp only at hSw); go_simp; try with_reducible rfl)
      try simp only [Act.put, List.setIfInBounds_toArray, List.set_cons_zero, List.set_cons_succ]
      refine wpAnyH_done (by kernel_rfl) ?_ _
      go_wp2_with fail
      go_ret
      exact ⟨_, rfl, H6.out⟩
    exact AllReadyH.nil
  by_cases h2 : 1099511627776 < bu
  · have eb : bud bu = 1099511627776 := bud_hi h1 h2
    have EB := Lib.hid eb
    clear eb
    go_enter Tryz.func8, Tryz.ntmps8
    go_upto_region 5 with fail
    refine rg_begin (S := fun w' => True) 8 #[false, false, false, false, false, false, false, false] (by kernel_rfl) (by kernel_rfl) (by kernel_rfl) ?_ (fun hHeld => ?_)
    · all_goals trivial
    obtain ⟨sz, hsz⟩ : ∃ sz, w.drew.heap.size = sz := ⟨_, rfl⟩
    have BD : Hid (w.heap.size = sz) := Lib.hid hsz
    have B0 : Hid (Below w.heap.size w w.drew) := Lib.hid ((Below.refl _ _).drew)
    have HP0 := Lib.hid (HP.out.kp0 (Kp.refl [] _).drew)
    generalize World.drew w = wD at *
    refine rgt 0 (some 11) (v := ?_) rfl ?_ ?_
    rotate_left 1
    · (intro wS hSw; (try dsimp only at hSw); go_simp; try with_reducible rfl)
    refine rgt 2 (some 13) (v := ?_) rfl ?_ ?_
    rotate_left 1
    · (intro wS hSw; (try dsimp only at hSw); go_simp; try with_reducible rfl)
    refine rgt 4 (some 15) (v := ?_) rfl ?_ ?_
    rotate_left 1
    · (intro wS hSw; (try dsimp only at hSw); go_simp; try with_reducible rfl)
    try simp only [Act.put, List.setIfInBounds_toArray, List.set_cons_zero, List.set_cons_succ]
    refine rg_of (rs := [1, 3]) (fuel := 4) (by kernel_rfl) rfl ?_
    refine rg_step (i := 1) (l := #[true, true, true, false, true, false, false, false]) rfl (by kernel_rfl) (by kernel_rfl) ?_ ?_
    · intro K hK
      go_simp
      skip
      first | (refine hK.out _ _ ?_ (fun hHeld => ?_)) | (go_wp2_with fail; refine hK.out _ _ ?_ (fun hHeld => ?_))
      · (try dsimp only); all_goals trivial
      clear hK K
      try simp only [Act.put, List.setIfInBounds_toArray, List.set_cons_zero, List.set_cons_succ]
      have HM1 := Lib.hid (Blk.new wD 5 (Array.replicate 8192 (.int .u8 0)))
      have B1 := Lib.hid (B0.out.alloc B0.out.size (.cells (Array.replicate 8192 (.int .u8 0)) 5))
      have HP1 := Lib.hid (HP0.out.kp0 ((Kp.refl _ _).alloc (.cells (Array.replicate 8192 (.int .u8 0)) 5)))
      rw [hsz] at HM1
      generalize World.alloc wD _ = w1 at *
      refine rg_next (i := 3) (l := #[true, true, true, true, true, false, false, false]) (fuel := 3) (by kernel_rfl) rfl (by kernel_rfl) (by kernel_rfl) (fun K hK => ?_)
      go_simp
      (go_at_call 43)
      refine (rat_new 0 false _).mono ?_
      rintro e w2 ⟨rfl, hk2, b2⟩
      obtain ⟨ck, hck⟩ : ∃ ck, w1.heap.size = ck := ⟨_, rfl⟩
      rw [hck] at hk2
      have B2 := Lib.hid (B1.out.trans (b2.mono B1.out.size))
      have HM2 := Lib.hid (HM1.out.below b2 HM1.out.lt)
      have HP2 := Lib.hid (HP1.out.keep b2)
      have HK2 := Lib.hid hk2
      have HC2 : Hid (w.heap.size ≤ ck) := Lib.hid (hck ▸ B1.out.size)
      clear b2 hk2
      first | (refine hK.out _ _ ?_ (fun hHeld => ?_)) | (go_wp2_with fail; refine hK.out _ _ ?_ (fun hHeld => ?_))
      · (try dsimp only); all_goals trivial
      clear hK K
      refine rgt 5 (some 16) (v := ?_) rfl ?_ ?_
      rotate_left 1
      · (intro wS hSw; (try dsimp only at hSw); go_simp; try with_reducible rfl)
      try simp only [Act.put, List.setIfInBounds_toArray, List.set_cons_zero, List.set_cons_succ]
      have H6 := Lib.hid (rbnew_mk (w := w) (W := W) (rv := rv) (bu := bu) BW.out HM2.out HK2.out HP2.out B2.out (by rw [BD.out]; exact Nat.le_refl _) (by rw [BD.out]; exact (BD.out ▸ HC2.out)) HNEW.out HROW.out hnc EB.out)
      clear HM2 HK2 HP2 B2
      refine rg_next (i := 6) (l := #[true, true, true, true, true, true, true, false]) (fuel := 1) (by kernel_rfl) rfl (by kernel_rfl) (by kernel_rfl) (fun K hK => ?_)
      go_simp
      skip
      first | (refine hK.out _ _ ?_ (fun hHeld => ?_)) | (go_wp2_with fail; refine hK.out _ _ ?_ (fun hHeld => ?_))
      · (try dsimp only); all_goals trivial
      clear hK K
      refine rgt 7 (some 6) (v := ?_) rfl ?_ ?_
      rotate_left 1
      · (intro wS hSw; (try dsimp only at hSw); go_simp; try with_reducible rfl)
      try simp only [Act.put, List.setIfInBounds_toArray, List.set_cons_zero, List.set_cons_succ]
      refine wpAnyH_done (by kernel_rfl) ?_ _
      go_wp2_with fail
      go_ret
      exact ⟨_, rfl, H6.out⟩
    refine rg_step (i := 3) (l := #[true, false, true, true, true, false, false, false]) rfl (by kernel_rfl) (by kernel_rfl) ?_ ?_
    · intro K hK
      go_simp
      (go_at_call 43)
      refine (rat_new 0 false _).mono ?_
      rintro e w1 ⟨rfl, hk1, b1⟩
      rw [hsz] at hk1
      have B1 := Lib.hid (B0.out.trans (b1.mono B0.out.size))
      have HP1 := Lib.hid (HP0.out.keep b1)
      have HK1 := Lib.hid hk1
      clear b1 hk1
      first | (refine hK.out _ _ ?_ (fun hHeld => ?_)) | (go_wp2_with fail; refine hK.out _ _ ?_ (fun hHeld => ?_))
      · (try dsimp only); all_goals trivial
      clear hK K
      try simp only [Act.put, List.setIfInBounds_toArray, List.set_cons_zero, List.set_cons_succ]
      refine rg_next (i := 1) (l := #[true, true, true, true, true, false, false, false]) (fuel := 3) (by kernel_rfl) rfl (by kernel_rfl) (by kernel_rfl) (fun K hK => ?_)
      go_simp
      skip
      first | (refine hK.out _ _ ?_ (fun hHeld => ?_)) | (go_wp2_with fail; refine hK.out _ _ ?_ (fun hHeld => ?_))
      · (try dsimp only); all_goals trivial
      clear hK K
      try simp only [Act.put, List.setIfInBounds_toArray, List.set_cons_zero, List.set_cons_succ]
      obtain ⟨ms, hms⟩ : ∃ ms, w1.heap.size = ms := ⟨_, rfl⟩
      have HC2 : Hid (w.heap.size ≤ ms) := Lib.hid (hms ▸ B1.out.size)
      have HM2 := Lib.hid (Blk.new w1 5 (Array.replicate 8192 (.int .u8 0)))
      rw [hms] at HM2
      have B2 := Lib.hid (B1.out.alloc B1.out.size (.cells (Array.replicate 8192 (.int .u8 0)) 5))
      have HP2 := Lib.hid (HP1.out.kp0 ((Kp.refl _ _).alloc (.cells (Array.replicate 8192 (.int .u8 0)) 5)))
      have HK2 := Lib.hid (HK1.out.alloc (.cells (Array.replicate 8192 (.int .u8 0)) 5))
      generalize World.alloc w1 _ = w2 at *
      refine rgt 5 (some 16) (v := ?_) rfl ?_ ?_
      rotate_left 1
      · (intro wS hSw; (try dsimp only at hSw); go_simp; try with_reducible rfl)
      try simp only [Act.put, List.setIfInBounds_toArray, List.set_cons_zero, List.set_cons_succ]
      have H6 := Lib.hid (rbnew_mk (w := w) (W := W) (rv := rv) (bu := bu) BW.out HM2.out HK2.out HP2.out B2.out (by rw [BD.out]; exact (BD.out ▸ HC2.out)) (by rw [BD.out]; exact Nat.le_refl _) HNEW.out HROW.out hnc EB.out)
      clear HM2 HK2 HP2 B2
      refine rg_next (i := 6) (l := #[true, true, true, true, true, true, true, false]) (fuel := 1) (by kernel_rfl) rfl (by kernel_rfl) (by kernel_rfl) (fun K hK => ?_)
      go_simp
      skip
      first | (refine hK.out _ _ ?_ (fun hHeld => ?_)) | (go_wp2_with fail; refine hK.out _ _ ?_ (fun hHeld => ?_))
      · (try dsimp only); all_goals trivial
      clear hK K
      refine rgt 7 (some 6) (v := ?_) rfl ?_ ?_
      rotate_left 1
      · (intro wS hSw; (try dsimp only at hSw); go_simp; try with_reducible rfl)
      try simp only [Act.put, List.setIfInBounds_toArray, List.set_cons_zero, List.set_cons_succ]
      refine wpAnyH_done (by kernel_rfl) ?_ _
      go_wp2_with fail
      go_ret
      exact ⟨_, rfl, H6.out⟩
    exact AllReadyH.nil
  · have eb : bud bu = bu := bud_in h1 h2
    have EB := Lib.hid eb
    clear eb
    go_enter Tryz.func8, Tryz.ntmps8
    go_upto_region 5 with fail
    refine rg_begin (S := fun w' => True) 8 #[false, false, false, false, false, false, false, false] (by kernel_rfl) (by kernel_rfl) (by kernel_rfl) ?_ (fun hHeld => ?_)
    · all_goals trivial
    obtain ⟨sz, hsz⟩ : ∃ sz, w.drew.heap.size = sz := ⟨_, rfl⟩
    have BD : Hid (w.heap.size = sz) := Lib.hid hsz
    have B0 : Hid (Below w.heap.size w w.drew) := Lib.hid ((Below.refl _ _).drew)
    have HP0 := Lib.hid (HP.out.kp0 (Kp.refl [] _).drew)
    generalize World.drew w = wD at *
    refine rgt 0 (some 11) (v := ?_) rfl ?_ ?_
    rotate_left 1
    · (intro wS hSw; (try dsimp only at hSw); go_simp; try with_reducible rfl)
    refine rgt 2 (some 13) (v := ?_) rfl ?_ ?_
    rotate_left 1
    · (intro wS hSw; (try dsimp only at hSw); go_simp; try with_reducible rfl)
    refine rgt 4 (some 15) (v := ?_) rfl ?_ ?_
    rotate_left 1
    · (intro wS hSw; (try dsimp only at hSw); go_simp; try with_reducible rfl)
    try simp only [Act.put, List.setIfInBounds_toArray, List.set_cons_zero, List.set_cons_succ]
    refine rg_of (rs := [1, 3]) (fuel := 4) (by kernel_rfl) rfl ?_
    refine rg_step (i := 1) (l := #[true, true, true, false, true, false, false, false]) rfl (by kernel_rfl) (by kernel_rfl) ?_ ?_
    · intro K hK
      go_simp
      skip
      first | (refine hK.out _ _ ?_ (fun hHeld => ?_)) | (go_wp2_with fail; refine hK.out _ _ ?_ (fun hHeld => ?_))
      · (try dsimp only); all_goals trivial
      clear hK K
      try simp only [Act.put, List.setIfInBounds_toArray, List.set_cons_zero, List.set_cons_succ]
      have HM1 := Lib.hid (Blk.new wD 5 (Array.replicate 8192 (.int .u8 0)))
      have B1 := Lib.hid (B0.out.alloc B0.out.size (.cells (Array.replicate 8192 (.int .u8 0)) 5))
      have HP1 := Lib.hid (HP0.out.kp0 ((Kp.refl _ _).alloc (.cells (Array.replicate 8192 (.int .u8 0)) 5)))
      rw [hsz] at HM1
      generalize World.alloc wD _ = w1 at *
      refine rg_next (i := 3) (l := #[true, true, true, true, true, false, false, false]) (fuel := 3) (by kernel_rfl) rfl (by kernel_rfl) (by kernel_rfl) (fun K hK => ?_)
      go_simp
      (go_at_call 43)
      refine (rat_new 0 false _).mono ?_
      rintro e w2 ⟨rfl, hk2, b2⟩
      obtain ⟨ck, hck⟩ : ∃ ck, w1.heap.size = ck := ⟨_, rfl⟩
      rw [hck] at hk2
      have B2 := Lib.hid (B1.out.trans (b2.mono B1.out.size))
      have HM2 := Lib.hid (HM1.out.below b2 HM1.out.lt)
      have HP2 := Lib.hid (HP1.out.keep b2)
      have HK2 := Lib.hid hk2
      have HC2 : Hid (w.heap.size ≤ ck) := Lib.hid (hck ▸ B1.out.size)
      clear b2 hk2
      first | (refine hK.out _ _ ?_ (fun hHeld => ?_)) | (go_wp2_with fail; refine hK.out _ _ ?_ (fun hHeld => ?_))
      · (try dsimp only); all_goals trivial
      clear hK K
      refine rgt 5 (some 16) (v := ?_) rfl ?_ ?_
      rotate_left 1
      · (intro wS hSw; (try dsimp only at hSw); go_simp; try with_reducible rfl)
      try simp only [Act.put, List.setIfInBounds_toArray, List.set_cons_zero, List.set_cons_succ]
      have H6 := Lib.hid (rbnew_mk (w := w) (W := W) (rv := rv) (bu := bu) BW.out HM2.out HK2.out HP2.out B2.out (by rw [BD.out]; exact Nat.le_refl _) (by rw [BD.out]; exact (BD.out ▸ HC2.out)) HNEW.out HROW.out hnc EB.out)
      clear HM2 HK2 HP2 B2
      refine rg_next (i := 6) (l := #[true, true, true, true, true, true, true, false]) (fuel := 1) (by kernel_rfl) rfl (by kernel_rfl) (by kernel_rfl) (fun K hK => ?_)
      go_simp
      skip
      first | (refine hK.out _ _ ?_ (fun hHeld => ?_)) | (go_wp2_with fail; refine hK.out _ _ ?_ (fun hHeld => ?_))
      · (try dsimp only); all_goals trivial
      clear hK K
      refine rgt 7 (some 6) (v := ?_) rfl ?_ ?_
      rotate_left 1
      · (intro wS hSw; (try dsimp only at hSw); go_simp; try with_reducible rfl)
      try simp only [Act.put, List.setIfInBounds_toArray, List.set_cons_zero, List.set_cons_succ]
      refine wpAnyH_done (by kernel_rfl) ?_ _
      go_wp2_with fail
      go_ret
      exact ⟨_, rfl, H6.out⟩
    refine rg_step (i := 3) (l := #[true, false, true, true, true, false, false, false]) rfl (by kernel_rfl) (by kernel_rfl) ?_ ?_
    · intro K hK
      go_simp
      (go_at_call 43)
      refine (rat_new 0 false _).mono ?_
      rintro e w1 ⟨rfl, hk1, b1⟩
      rw [hsz] at hk1
      have B1 := Lib.hid (B0.out.trans (b1.mono B0.out.size))
      have HP1 := Lib.hid (HP0.out.keep b1)
      have HK1 := Lib.hid hk1
      clear b1 hk1
      first | (refine hK.out _ _ ?_ (fun hHeld => ?_)) | (go_wp2_with fail; refine hK.out _ _ ?_ (fun hHeld => ?_))
      · (try dsimp only); all_goals trivial
      clear hK K
      try simp only [Act.put, List.setIfInBounds_toArray, List.set_cons_zero, List.set_cons_succ]
      refine rg_next (i := 1) (l := #[true, true, true, true, true, false, false, false]) (fuel := 3) (by kernel_rfl) rfl (by kernel_rfl) (by kernel_rfl) (fun K hK => ?_)
      go_simp
      skip
      first | (refine hK.out _ _ ?_ (fun hHeld => ?_)) | (go_wp2_with fail; refine hK.out _ _ ?_ (fun hHeld => ?_))
      · (try dsimp only); all_goals trivial
      clear hK K
      try simp only [Act.put, List.setIfInBounds_toArray, List.set_cons_zero, List.set_cons_succ]
      obtain ⟨ms, hms⟩ : ∃ ms, w1.heap.size = ms := ⟨_, rfl⟩
      have HC2 : Hid (w.heap.size ≤ ms) := Lib.hid (hms ▸ B1.out.size)
      have HM2 := Lib.hid (Blk.new w1 5 (Array.replicate 8192 (.int .u8 0)))
      rw [hms] at HM2
      have B2 := Lib.hid (B1.out.alloc B1.out.size (.cells (Array.replicate 8192 (.int .u8 0)) 5))
      have HP2 := Lib.hid (HP1.out.kp0 ((Kp.refl _ _).alloc (.cells (Array.replicate 8192 (.int .u8 0)) 5)))
      have HK2 := Lib.hid (HK1.out.alloc (.cells (Array.replicate 8192 (.int .u8 0)) 5))
      generalize World.alloc w1 _ = w2 at *
      refine rgt 5 (some 16) (v := ?_) rfl ?_ ?_
      rotate_left 1
      · (intro wS hSw; (try dsimp only at hSw); go_simp; try with_reducible rfl)
      try simp only [Act.put, List.setIfInBounds_toArray, List.set_cons_zero, List.set_cons_succ]
      have H6 := Lib.hid (rbnew_mk (w := w) (W := W) (rv := rv) (bu := bu) BW.out HM2.out HK2.out HP2.out B2.out (by rw [BD.out]; exact (BD.out ▸ HC2.out)) (by rw [BD.out]; exact Nat.le_refl _) HNEW.out HROW.out hnc EB.out)
      clear HM2 HK2 HP2 B2
      refine rg_next (i := 6) (l := #[true, true, true, true, true, true, true, false]) (fuel := 1) (by kernel_rfl) rfl (by kernel_rfl) (by kernel_rfl) (fun K hK => ?_)
      go_simp
      skip
      first | (refine hK.out _ _ ?_ (fun hHeld => ?_)) | (go_wp2_with fail; refine hK.out _ _ ?_ (fun hHeld => ?_))
      · (try dsimp only); all_goals trivial
      clear hK K
      refine rgt 7 (some 6) (v := ?_) rfl ?_ ?_
      rotate_left 1
      · (intro wS hSw; (try dsimp only at hSw); go_simp; try with_reducible rfl)
      try simp only [Act.put, List.setIfInBounds_toArray, List.set_cons_zero, List.set_cons_succ]
      refine wpAnyH_done (by kernel_rfl) ?_ _
      go_wp2_with fail
      go_ret
      exact ⟨_, rfl, H6.out⟩
    exact AllReadyH.nil
end
end Go.Proofs.YtleofglnlfpoeaaGreat
