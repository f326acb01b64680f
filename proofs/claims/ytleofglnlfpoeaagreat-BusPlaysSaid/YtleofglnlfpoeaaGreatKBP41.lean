/-
  Texts of these proofs, one behind the other: Ram8, Cart13, Rb12.
-/
import Derived.Test.YtleofglnlfpoeaaGreatKBP36
import Derived.Test.YtleofglnlfpoeaaGreatKBP40
import Derived.Test.YtleofglnlfpoeaaGreatKBP38
import Derived.Deep.MidRow
import Derived.Deep.Cut
import Derived.Deep.CutRange
import Derived.StillTailTactics
import Derived.Deep.CutBlock
import Derived.Deep.RegionHeld3
namespace Go.Proofs.YtleofglnlfpoeaaGreat
open Go.RowKit
set_option linter.unusedVariables false
set_option linter.unusedSimpArgs false
set_option maxRecDepth 100000
/-- The first k blocks of f; else 0. -/
def upto (f : Nat → Int) (k : Nat) (j : Nat) : Int := if j < 64 * k then f j else 0
def OfR (ps : Nat → Pc) (m : Nat) (w : World) (e : Ending) (w' : World) : Prop :=
  Below w.heap.size w w' ∧ ((∃ j, j < m ∧ ¬ good 8192 (ps j) ∧ (∀ i, i < j → good 8192 (ps i)) ∧ e = .returned (.tuple #[.pointer none, .agg #[.int .i64 1, .int .i64 j]])) ∨
    ((∀ i, i < m → good 8192 (ps i)) ∧ ∃ g mb, e = .returned (.tuple #[.pointer (some ⟨g, 0, none⟩), .agg #[.int .i64 0, .int .i64 0]]) ∧ w.heap.size ≤ g ∧ (∀ b, mb = some b → w.heap.size ≤ b) ∧ RD w' g mb (laid ps m)))
set_option maxHeartbeats 4000000 in
theorem ramof_any (A : Option Addr) (m c : Nat) (ps : Nat → Pc) (w : World) (hm : m ≤ maxLen) (R : PRow w A m ps) :
    Calls Tryz.prog 45 #[.slice A m c] w (OfR ps m w) := by
  have hz := zero88
  have hsz := arr_size
  have RH := Lib.hid R
  have HM := Lib.hid hm
  clear R hm
  go_enter Tryz.func45, Tryz.ntmps45
  go_wp2_with fail
  have hB0 : Below w.heap.size w (w.alloc (.cells #[.int .i64 0, .int .i64 0] 34)) := (Below.refl _ _).alloc (Nat.le_refl _) _
  have hF0 : Blk (w.alloc (.cells #[.int .i64 0, .int .i64 0] 34)) w.heap.size 34 #[.int .i64 0, .int .i64 0] := Blk.new _ _ _
  refine (make_any 1 8192 A m c ps _ (by kernel_rfl) (by omega) HM.out (RH.out.keep hB0)).mono ?_
  rintro e w1 ⟨hb, hres⟩
  have hB1 := hB0.trans (hb.mono hB0.size)
  have hF1 := hF0.below hb hF0.lt
  rcases hres with ⟨j, hj, hbad, hgd, rfl⟩ | ⟨hall, gp, C, rfl, hgp, hC, hBA⟩
  · have f0 : w1.frozen? ⟨w.heap.size, 0, none⟩ = false := hF1.frozen 0
    have f1 : w1.frozen? ⟨w.heap.size, 1, none⟩ = false := hF1.frozen 1
    have c0 : w1.cell? ⟨w.heap.size, 0, none⟩ = some (.int .i64 0) := hF1.cell 0
    have c1 : w1.cell? ⟨w.heap.size, 1, none⟩ = some (.int .i64 0) := hF1.cell 1
    have HFX := Lib.hid hF1
    have hlt := hF1.lt
    clear hF0 hF1 hb hB0
    go_wp2_with fail
    go_region
    all_goals
      go_wp2
      refine bodyPost_ret (v := .tuple #[.pointer none, .agg #[.int .i64 1, .int .i64 j]]) (by simp [results, Tryz.results45, go_sem, c0, c1, hlt]) rfl ?_
      refine ⟨?_, .inl ⟨j, hj, hbad, hgd, rfl⟩⟩
      exact ((((hB1.setCell (p := ⟨w.heap.size, 0, none⟩) (Nat.le_refl _) _).setCell (p := ⟨w.heap.size, 1, none⟩) (Nat.le_refl _) _).alloc (by have := hB1.size; simp [World.setCell]; omega) _)).drew
  · have HC := Lib.hid hC
    have HBA := Lib.hid hBA
    have HFX := Lib.hid hF1
    clear hC hBA hF1 hF0 hb hB0
    go_wp2_with fail
    refine (rnew_any _).mono ?_
    rintro e w2 ⟨rfl, h2, k2⟩
    have kA : Below w1.heap.size w1 (w1.alloc (.cells #[.int .i64 0, .int .i64 0] 34)) := (Below.refl _ _).alloc (Nat.le_refl _) _
    have hsA : (w1.alloc (.cells #[.int .i64 0, .int .i64 0] 34)).heap.size = w1.heap.size + 1 := by simp
    rw [hsA] at h2 k2 ⊢
    have k12 : Below w1.heap.size w1 w2 := kA.trans (k2.mono (by omega))
    have hB2 := hB1.trans (k12.mono hB1.size)
    have hs1 := hB1.size
    have hgpl := HC.out.lt
    have hfl := HFX.out.lt
    have HC2 := Lib.hid (HC.out.below k12 hgpl)
    have HF2 := Lib.hid (HFX.out.below k12 hfl)
    have H2 := Lib.hid h2
    have sg2 := h2.1.lt
    have hgw : w.heap.size ≤ w1.heap.size + 1 := by omega
    have hgg : gp < w1.heap.size + 1 := by omega
    have hgf : w.heap.size < w1.heap.size + 1 := by omega
    clear h2 k2 kA hsA k12 hB1 HC HFX
    generalize w1.heap.size + 1 = g at *
    go_wp2_with fail
    go_loopw [18] (fun i wr => ∃ k : Nat, k ≤ 128 ∧ i = .int .i64 k ∧ (∃ mb, (∀ b, mb = some b → w2.heap.size ≤ b) ∧ RD wr g mb (upto (laid ps m) k)) ∧ Kp [g] w2 wr) (fun i _ => 128 - (intOf i).toNat)
    case atStart => exact ⟨0, by omega, rfl, ⟨none, (fun b e => by cases e), H2.out.1, H2.out.2.congr (fun i hi => by unfold upto; rw [if_neg (by omega)])⟩, Kp.refl _ _⟩
    case round =>
      obtain ⟨k, hk, rfl, ⟨mb, hmb, hRD⟩, hKp⟩ := hrel
      have HRD := Lib.hid hRD
      have HKp := Lib.hid hKp
      have HMB := Lib.hid hmb
      clear hRD hKp hmb
      by_cases hlt : k < 128
      · have i0 : (0 : Int) ≤ (k : Int) := by omega
        have i1 : (k : Int) < 128 := by omega
        have harr : ∀ (ad : Addr) (c : Nat) (W : World), (Instr.arrayAt 168 (.slice (some ad) 64 c)).run Tryz.prog W = .ok (.pointer (some ad)) W := fun ad c W => by
          simp [Instr.arrayAt, run_underlying Tryz.underlying168]
        have hlen : (k + 1) * 64 - k * 64 = 64 := by omega
        have hCk := HC2.out.kp HKp.out (by simp; omega)
        have hrow : wr.rangeAt gp (k * 64) (bytesOf (fun i => laid ps m (64 * k + i)) 64) := fun j v hv => by
          have hj : j < 64 := by have := (List.getElem?_eq_some_iff.1 hv).1; rwa [bytesOf_len] at this
          rw [bytesOf_at _ 64 j hj] at hv
          injection hv with hv
          subst hv
          rw [hCk.cell, List.getElem?_toArray, show k * 64 + j = 64 * k + j by omega]
          exact HBA.out.2 _ (by omega)
        have HROW := Lib.hid hrow
        have HS : Hid ((Tryz.prog.info? 168).map (·.size) = some (bytesOf (fun i => laid ps m (64 * k + i)) 64).length) := Lib.hid (by rw [bytesOf_len]; exact size88)
        clear hrow hCk
        go_wp2_with (refine wpList_load_mid rfl 168 (.tmp 30) rfl gp (k * 64) (by rfl) (bytesOf (fun i => laid ps m (64 * k + i)) 64) _ HROW.out Tryz.underlying168 rfl HS.out ?_)
        have hput := put_any HRD.out k hlt (fun i => laid ps m (64 * k + i))
        unfold arr at hput
        refine hput.mono ?_
        clear hput
        rintro e w3 ⟨rfl, mb', p1, p2, p3⟩
        have hb' : ∀ b, mb' = some b → w2.heap.size ≤ b := fun b e => by
          rcases p3 with p3 | ⟨b2, p3, p4⟩
          · rw [p3] at e; exact HMB.out b e
          · rw [p3] at e; cases e; have := HKp.out.size; omega
        have P1 := Lib.hid p1
        have P2 := Lib.hid (HKp.out.trans p2 (fun x hx => by
          rcases List.mem_cons.1 hx with rfl | hx
          · exact .inl (by simp)
          · exact .inr (HMB.out x (by simpa using hx))))
        have HB' := Lib.hid hb'
        clear p1 p2 p3 hb'
        go_wp2_with fail
        go_roundw
        case rel =>
          refine ⟨k + 1, by omega, by go_num, ⟨mb', HB'.out, P1.out.1, P1.out.2.congr fun i hi => ?_⟩, P2.out⟩
          unfold upto fput
          by_cases h1 : 64 * k ≤ i ∧ i < 64 * k + 64
          · rw [if_pos (by omega), if_pos h1]
            show _ = laid ps m (64 * k + (i - 64 * k))
            congr 1; omega
          · rw [if_neg h1]
            show _ = if i < 64 * k then laid ps m i else 0
            by_cases h2 : i < 64 * k
            · rw [if_pos (by omega), if_pos h2]
            · rw [if_neg (by omega), if_neg h2]
        case measure => simp [intOf]; omega
      · obtain rfl : k = 128 := by omega
        have hFk := HF2.out.kp HKp.out (by simp; omega)
        have f0 : wr.frozen? ⟨w.heap.size, 0, none⟩ = false := hFk.frozen 0
        have f1 : wr.frozen? ⟨w.heap.size, 1, none⟩ = false := hFk.frozen 1
        have c0 : wr.cell? ⟨w.heap.size, 0, none⟩ = some (.int .i64 0) := hFk.cell 0
        have c1 : wr.cell? ⟨w.heap.size, 1, none⟩ = some (.int .i64 0) := hFk.cell 1
        clear hFk
        go_wp2_with fail
        refine bodyPost_ret (v := .tuple #[.pointer (some ⟨g, 0, none⟩), .agg #[.int .i64 0, .int .i64 0]]) (by simp [results, Tryz.results45, go_sem, c0, c1]) rfl ?_
        have kp : Kp [w.heap.size] wr ((wr.setCell ⟨w.heap.size, 0, none⟩ (.int .i64 0)).setCell ⟨w.heap.size, 1, none⟩ (.int .i64 0)) := ((Kp.refl _ _).setCell (.inl (by simp)) _).setCell (.inl (by simp)) _
        have hB3 := HKp.out.onto hB2 hB2.size (by simpa using hgw)
        have hb2 := hB2.size
        have hR := HRD.out.kp kp (by simp; omega) (fun b e => by have := HMB.out b e; simp; omega)
        refine ⟨kp.onto hB3 hB3.size (by simp), .inr ⟨hall, g, mb, rfl, hgw, fun b e => by have := HMB.out b e; omega, hR.1, hR.2.congr fun i hi => ?_⟩⟩
        unfold upto
        rw [if_pos (by omega)]
end Go.Proofs.YtleofglnlfpoeaaGreat
namespace Go.Proofs.YtleofglnlfpoeaaGreat
open Go.RowKit
set_option linter.unusedVariables false
theorem runs_last (z : Nat → Int) (i : Nat) (hi : 0 < i) (hz : z (i - 1) ≠ 0) : ∃ L f d, runs z i = L ++ [(f, d)] ∧ f + d = i ∧ 0 < d := by
  induction i with
  | zero => omega
  | succ i ih =>
    rw [Nat.add_sub_cancel] at hz
    rw [runs_succ, if_neg hz]
    by_cases c : 0 < i ∧ z (i - 1) ≠ 0
    · obtain ⟨L, f, d, e, h1, h2⟩ := ih c.1 c.2
      rw [if_pos c, e]
      exact ⟨L, f, d + 1, by simp, by omega, by omega⟩
    · rw [if_neg c]; exact ⟨_, i, 1, rfl, rfl, by omega⟩
theorem runs_more (z : Nat → Int) (i : Nat) (hi : 0 < i) (hz : z (i - 1) ≠ 0) (hz2 : z i ≠ 0) {L : List (Nat × Nat)} {f d : Nat} (e : runs z i = L ++ [(f, d)]) : runs z (i + 1) = L ++ [(f, d + 1)] := by
  rw [runs_succ, if_neg hz2, if_pos ⟨hi, hz⟩, e]; simp
theorem runs_new (z : Nat → Int) (i : Nat) (hz : i = 0 ∨ z (i - 1) = 0) (hz2 : z i ≠ 0) : runs z (i + 1) = runs z i ++ [(i, 1)] := by
  rw [runs_succ, if_neg hz2, if_neg (by rintro ⟨a, b⟩; rcases hz with h | h; omega; exact b h)]
/-- A piece's bytes lie in a row of the call's own. -/
def RowB (w : World) (B : Nat) (p : Pc) : Prop := ∃ g, p.A = some ⟨g, 0, none⟩ ∧ w.ownsRow B 5 1 (.slice (some ⟨g, 0, none⟩) p.n p.c) p.n (bytesOf p.z p.n)
theorem RowB.alloc {w : World} {B : Nat} {p : Pc} (h : RowB w B p) (o : Obj) : RowB (w.alloc o) B p := by
  obtain ⟨g, a, b⟩ := h
  exact ⟨g, a, b.alloc o⟩
theorem RowB.grown {w w' : World} {B : Nat} {p : Pc} {row : Option Nat} (h : RowB w B p) (gb : w.grownBy w' row) (hne : ∀ g, p.A = some ⟨g, 0, none⟩ → some g ≠ row) : RowB w' B p := by
  obtain ⟨g, a, b⟩ := h
  exact ⟨g, a, b.kept gb (Or.inr (hne g a))⟩
theorem own_type {w : World} {base e size n c g : Nat} {xs : List Value} (h : w.ownsRow base e size (.slice (some ⟨g, 0, none⟩) n c) n xs) : ∃ cs, Blk w g e cs := by
  rcases h.2 with ⟨h, _⟩ | ⟨g', cap, cur, he, _, hh, _⟩
  · cases h
  · injection he with e1 _ _
    rw [Option.some.injEq, Addr.mk.injEq] at e1
    rw [e1.1]; exact ⟨cur, hh⟩
def PQ (w : World) (B : Nat) (z : Nat → Int) (L : List (Nat × Nat)) (ps : Nat → Pc) : Prop :=
  ∀ i, i < L.length → (ps i).at_ = ((L.getD i (0, 0)).1 : Int) ∧ (ps i).n = (L.getD i (0, 0)).2 ∧ (ps i).z = (fun j => z ((L.getD i (0, 0)).1 + j)) ∧ (Lit.int .i64 (ps i).at_).wf = true ∧ RowB w B (ps i)
def Dist (ps : Nat → Pc) (m : Nat) : Prop := ∀ j, j + 1 < m → (ps j).A ≠ (ps (m - 1)).A
theorem RowB.ok {w : World} {B : Nat} {p : Pc} (h : RowB w B p) (hw : (Lit.int .i64 p.at_).wf = true) (hz : ∀ j, j < p.n → (Lit.int .u8 (p.z j)).wf = true) : PcOk w p ∧ PcB w p := by
  obtain ⟨g, a, b⟩ := h
  obtain ⟨cs, hb⟩ := own_type b
  have hlt : g < w.heap.size := (b.lt g rfl).2
  have hc : p.n ≤ p.c ∧ p.c ≤ maxLen := by
    rcases b.2 with ⟨h, _⟩ | ⟨g', cap, cur, he, _, _, hnc, hcm, _⟩
    · cases h
    · injection he with _ _ e3
      rw [e3]; exact ⟨hnc, hcm⟩
  refine ⟨⟨hw, hc.1, hc.2, fun i hi => ⟨_, a, hlt, b.cells (g := g) rfl i _ (bytesOf_at p.z p.n i hi), hz i hi⟩⟩, g, cs, a, hb⟩
theorem PQ.pl {w : World} {B : Nat} {z : Nat → Int} {L : List (Nat × Nat)} {ps : Nat → Pc} (h : PQ w B z L ps) (hz : ∀ i, i < L.length → ∀ j, j < (L.getD i (0, 0)).2 → (Lit.int .u8 (z ((L.getD i (0, 0)).1 + j))).wf = true) : PL w z L ps := fun i hi => by
  obtain ⟨a, b, c, d, e⟩ := h i hi
  have := e.ok d (fun j hj => by rw [c]; exact hz i hi j (by rw [← b]; exact hj))
  exact ⟨a, b, c, this.1, this.2⟩
theorem getD_left (L : List (Nat × Nat)) (x : Nat × Nat) (i : Nat) (h : i < L.length) : (L ++ [x]).getD i (0, 0) = L.getD i (0, 0) := by
  rw [List.getD_eq_getElem?_getD, List.getD_eq_getElem?_getD, List.getElem?_append_left h]
theorem getD_last (L : List (Nat × Nat)) (x : Nat × Nat) : (L ++ [x]).getD L.length (0, 0) = x := by
  rw [List.getD_eq_getElem?_getD]; simp
theorem PQ.new {w w' : World} {B : Nat} {z : Nat → Int} {L : List (Nat × Nat)} {ps : Nat → Pc} {row : Option Nat} (h : PQ w B z L ps) (gb : w.grownBy w' row) (hne : ∀ g cs, Blk w g 5 cs → some g ≠ row) (p : Pc) (f : Nat) (h1 : p.at_ = (f : Int)) (h2 : p.n = 1) (h3 : p.z = fun j => z (f + j)) (hw : (Lit.int .i64 p.at_).wf = true) (hp : RowB w B p) :
    PQ w' B z (L ++ [(f, 1)]) (fun i => if i < L.length then ps i else p) := fun i hi => by
  have key : ∀ q : Pc, RowB w B q → RowB w' B q := fun q hq => hq.grown gb fun g e => by
    obtain ⟨g', e', b⟩ := hq
    rw [e] at e'
    injection e' with e'
    rw [Addr.mk.injEq] at e'
    obtain ⟨cs, hb⟩ := own_type b
    rw [e'.1]
    exact hne g' cs hb
  by_cases hl : i < L.length
  · obtain ⟨a, b, c, d, e⟩ := h i hl
    simp only [if_pos hl]
    rw [getD_left L _ i hl]
    exact ⟨a, b, c, d, key _ e⟩
  · have il : i = L.length := by rw [List.length_append, List.length_singleton] at hi; omega
    simp only [if_neg hl]
    rw [il, getD_last]
    exact ⟨h1, h2, h3, hw, key _ hp⟩
theorem PQ.upd {w w2 w3 : World} {B go gq : Nat} {z : Nat → Int} {L : List (Nat × Nat)} {f d : Nat} {ps : Nat → Pc} (h : PQ w B z (L ++ [(f, d)]) ps) (hd : Dist ps (L.length + 1)) (hq : (ps L.length).A = some ⟨gq, 0, none⟩)
    (gb1 : w.grownBy w2 (some gq)) (gb2 : w2.grownBy w3 (some go)) (hne : ∀ g cs, Blk w2 g 5 cs → g ≠ go) (p : Pc) (h1 : p.at_ = (f : Int)) (h2 : p.n = d + 1) (h3 : p.z = fun j => z (f + j)) (hp : RowB w2 B p) :
    PQ w3 B z (L ++ [(f, d + 1)]) (fun i => if i < L.length then ps i else p) := fun i hi => by
  have key : ∀ q : Pc, RowB w2 B q → RowB w3 B q := fun q hq => hq.grown gb2 fun g e => by
    obtain ⟨g', e', b⟩ := hq
    rw [e] at e'
    injection e' with e'
    rw [Addr.mk.injEq] at e'
    obtain ⟨cs, hb⟩ := own_type b
    rw [e'.1]
    intro h
    injection h with h
    exact hne g' cs hb h
  by_cases hl : i < L.length
  · obtain ⟨a, b, c, e, r⟩ := h i (by simp; omega)
    simp only [if_pos hl]
    rw [getD_left L _ i hl] at a b c ⊢
    refine ⟨a, b, c, e, key _ (r.grown gb1 fun g eg hgq => ?_)⟩
    injection hgq with hgq
    subst hgq
    exact hd i (by omega) (by rw [eg, Nat.add_sub_cancel, hq])
  · have il : i = L.length := by rw [List.length_append, List.length_singleton] at hi; omega
    obtain ⟨a, b, c, e, r⟩ := h L.length (by simp)
    rw [getD_last] at a
    simp only [if_neg hl]
    rw [il, getD_last]
    exact ⟨h1, h2, h3, by rw [h1, ← a]; exact e, key _ hp⟩
theorem cellsP_len (ps : Nat → Pc) (m : Nat) : (cellsP ps m).length = m * 2 := by
  induction m with
  | zero => rfl
  | succ m ih => rw [cellsP_succ, List.length_append, ih]; simp; omega
theorem cellsP_set (ps : Nat → Pc) (m : Nat) (p : Pc) (h : p.at_ = (ps m).at_) : (cellsP ps (m + 1)).set (m * 2 + 1) (.slice p.A p.n p.c) = cellsP (fun i => if i < m then ps i else p) (m + 1) := by
  have hl := cellsP_len ps m
  have h2 : cellsP (fun i => if i < m then ps i else p) (m + 1) = cellsP ps m ++ [.int .i64 (ps m).at_, .slice p.A p.n p.c] := by
    rw [cellsP_succ, cellsP_congr (fun i => if i < m then ps i else p) ps m (fun i hi => if_pos hi)]
    simp [h]
  rw [h2, cellsP_succ, List.set_append, if_neg (by omega), hl, show m * 2 + 1 - m * 2 = 1 by omega]
  rfl
theorem one_own {w : World} {B : Nat} {z : Nat → Int} {i : Nat} (hB : B ≤ w.heap.size) : (w.alloc (.cells #[.int .u8 (z i)] 5)).ownsRow B 5 1 (.slice (some ⟨w.heap.size, 0, none⟩) 1 1) 1 (bytesOf (fun j => z (i + j)) 1) :=
  ⟨rfl, Or.inr ⟨w.heap.size, 1, #[.int .u8 (z i)], rfl, hB, heap_alloc_new w _, Nat.le_refl _, by unfold maxLen; omega, rfl, rfl⟩⟩
theorem PQ.lt {w : World} {B : Nat} {z : Nat → Int} {L : List (Nat × Nat)} {ps : Nat → Pc} (h : PQ w B z L ps) (i : Nat) (hi : i < L.length) : ∃ g, (ps i).A = some ⟨g, 0, none⟩ ∧ g < w.heap.size := by
  obtain ⟨_, _, _, _, g, e, b⟩ := h i hi
  exact ⟨g, e, (b.lt g rfl).2⟩
theorem PQ.alloc {w : World} {B : Nat} {z : Nat → Int} {L : List (Nat × Nat)} {ps : Nat → Pc} (h : PQ w B z L ps) (o : Obj) : PQ (w.alloc o) B z L ps := fun i hi => by
  obtain ⟨a, b, c, d, e⟩ := h i hi
  exact ⟨a, b, c, d, e.alloc o⟩
end Go.Proofs.YtleofglnlfpoeaaGreat
namespace Go.Proofs.YtleofglnlfpoeaaGreat
open Go.RowKit
set_option linter.unusedVariables false
set_option linter.unusedSimpArgs false
set_option maxRecDepth 100000
/-- The first pieces laid over a row. -/
def flt (f : Nat → Int) (ps : Nat → Pc) : Nat → Nat → Int
  | 0 => f
  | q + 1 => laidTo (flt f ps q) (ps q) (ps q).n
theorem laidTo_fw (f : Nat → Int) (p : Pc) (j : Nat) (a0 : 0 ≤ p.at_) (a1 : p.at_ + j < 8192) : fw (laidTo f p j) (p.at_ + j) (p.z j) = laidTo f p (j + 1) := by
  funext i
  have e : ((p.at_ + (j : Int)) % 8192).toNat = (p.at_ + j).toNat := by omega
  unfold fw laidTo
  rw [e]
  by_cases h : i = (p.at_ + (j : Int)).toNat
  · rw [if_pos h, if_pos (by omega)]
    congr 1
    omega
  · rw [if_neg h]
    by_cases h2 : p.at_ ≤ (i : Int) ∧ (i : Int) < p.at_ + j
    · rw [if_pos h2, if_pos (by omega)]
    · rw [if_neg h2, if_neg (by omega)]
section
variable {W w w1 w2 : World} {g : Nat} {d : Hd} {P P1 : Bp} {s s' : Bs}
/-- A bus as it is behind calls, whatever they answered. -/
def BuK (g : Nat) (d : Hd) (P : Bp) (s : Bs) (w w' : World) : Prop := BuR (.tuple #[]) g d P s w (.returned (.tuple #[])) w'
theorem BuK.refl (h : BU w g d P s) : BuK g d P s w w := ⟨P, rfl, h, Kp.refl _ _, fun y hy => .inl hy, rfl, rfl, rfl⟩
theorem BuK.on (h : BuK g d P s w w1) (k : Kp [] w1 w2) : BuK g d P s w w2 := by
  obtain ⟨Q, e, x1, x2, x3, x4, x5, x6⟩ := h
  exact ⟨Q, e, x1.kp0 k, x2.trans k (by simp), x3, x4, x5, x6⟩
theorem BuK.write {a b : Int} (h : BuK g d P s w w1) (b0 : 0 ≤ b) (b1 : b ≤ 255) {Q : Bp} (hq : BU w1 g d Q s) (k : Kp (bL g P) w w1) (fr : ∀ y ∈ bL g Q, y ∈ bL g P ∨ w.heap.size ≤ y) (q1 : Q.p = P.p) (q2 : Q.b = P.b) (q3 : Q.m = P.m) {e : Ending} (hw : WriteR Q.m Q.mb (fw s.f a b) w1 e w2) :
    BuK g d P { s with f := fw s.f a b } w w2 := by
  obtain ⟨_, mb', r, kk, hm⟩ := hw
  have hb := hq.mem kk r (fw_bd hq.ok.2.2.2.2 b0 b1)
  refine ⟨{ Q with mb := mb' }, rfl, hb, k.trans (kk.mono (fun z hz => ?_)) fr, fun y hy => ?_, q1, q2, q3⟩
  · exact mem_bL.2 (by
      simp only [List.mem_cons, Option.mem_toList, Option.mem_def] at hz
      rcases hz with hz | hz
      · exact .inr (.inl hz)
      · exact .inr (.inr (.inl hz)))
  · rcases mem_bL.1 hy with e | e | e | e | e | e | e | e
    · exact fr y (mem_bL.2 (.inl e))
    · exact fr y (mem_bL.2 (.inr (.inl e)))
    · have e : mb' = some y := e
      rcases hm with hm | ⟨b', hm, hl⟩
      · rw [hm] at e; exact fr y (mem_bL.2 (.inr (.inr (.inl e))))
      · rw [hm] at e; cases e; exact .inr (Nat.le_trans k.size hl)
    · exact fr y (mem_bL.2 (.inr (.inr (.inr (.inl e)))))
    · exact fr y (mem_bL.2 (.inr (.inr (.inr (.inr (.inl e))))))
    · exact fr y (mem_bL.2 (.inr (.inr (.inr (.inr (.inr (.inl e)))))))
    · exact fr y (mem_bL.2 (.inr (.inr (.inr (.inr (.inr (.inr (.inl e))))))))
    · exact fr y (mem_bL.2 (.inr (.inr (.inr (.inr (.inr (.inr (.inr e))))))))
theorem BuK.off (h : BuK g d P s w w1) {y : Nat} (h1 : y ∉ bL g P) (h2 : y < w.heap.size) : ∃ Q, BU w1 g d Q s ∧ Kp (bL g P) w w1 ∧ (∀ z ∈ bL g Q, z ∈ bL g P ∨ w.heap.size ≤ z) ∧ Q.p = P.p ∧ Q.b = P.b ∧ Q.m = P.m ∧ y ∉ bL g Q := by
  obtain ⟨Q, _, x1, x2, x3, x4, x5, x6⟩ := h
  refine ⟨Q, x1, x2, x3, x4, x5, x6, fun hy => ?_⟩
  rcases x3 y hy with e | e
  · exact h1 e
  · omega
theorem BuK.old (h : BuK g d P s w w1) (bw : Below W.heap.size W w) (lo : ∀ y ∈ bL g P, W.heap.size ≤ y) : Below W.heap.size W w1 := by
  obtain ⟨Q, _, x1, x2, _⟩ := h
  exact x2.onto bw bw.size lo
theorem mem_mb {Q : Bp} {z : Nat} (h : z ∈ Q.m :: Q.mb.toList) : z ∈ bL g Q := mem_bL.2 (by
  simp only [List.mem_cons, Option.mem_toList, Option.mem_def] at h
  rcases h with h | h
  · exact .inr (.inl h)
  · exact .inr (.inr (.inl h)))
theorem BuK.fin {w0 : World} {f0 : Nat} {v : Value} (k0 : Kp [] w w0) (h : BuK g d P s w0 w1) (k1 : Kp [f0] w1 w2) (hN : NB w1 f0) (hf : f0 ∉ bL g P) (hl : f0 < w0.heap.size) (hw : w.heap.size ≤ f0) : BuR v g d P s w (.returned v) w2 := by
  obtain ⟨Q, _, x1, x2, x3, x4, x5, x6⟩ := h
  have hq : f0 ∉ bL g Q := fun hy => by
    rcases x3 f0 hy with e | e
    · exact hf e
    · omega
  refine ⟨Q, rfl, x1.kp k1 (fun y hy => by rw [List.mem_singleton.1 hy]; exact hN) (fun y hy hy2 => hq (by rw [← List.mem_singleton.1 hy2]; exact hy)), ?_, fun y hy => (x3 y hy).imp id (fun e => Nat.le_trans k0.size e), x4, x5, x6⟩
  exact ((k0.mono (M := bL g P) (by simp)).trans x2 (fun z hz => .inl hz)).trans k1 (fun z hz => .inr (by rw [List.mem_singleton.1 hz]; exact hw))
end
set_option maxHeartbeats 8000000 in
theorem bfill_bad {W w : World} {g : Nat} {d : Hd} {P : Bp} {s : Bs} {A : Option Addr} {m c j : Nat} {ps : Nat → Pc} (h : BU w g d P s) (bw : Below W.heap.size W w) (lo : ∀ y ∈ bL g P, W.heap.size ≤ y) (R : PRow W A m ps) (hm : m ≤ 1000)
    (hj : j < m) (hg : ∀ i, i < j → good 8192 (ps i)) (hb : ¬ good 8192 (ps j)) :
    Calls Tryz.prog 9 #[.pointer (some ⟨g, 0, none⟩), .slice A m c] w (BuR (.agg #[.int .i64 1, .int .i64 j]) g d P s w) := by
  have R1 := Lib.hid R
  have BW := Lib.hid bw
  have HLO := Lib.hid lo
  have H0 := Lib.hid (BU.kp0 h ((Kp.refl [] w).alloc (.cells #[.int .i64 0, .int .i64 0] 34)))
  have HF0 := Lib.hid (Blk.new w 34 #[.int .i64 0, .int .i64 0])
  have HK0 := Lib.hid ((Kp.refl [] w).alloc (.cells #[.int .i64 0, .int .i64 0] 34))
  have hfl : w.heap.size ∉ bL g P := fun hy => Nat.lt_irrefl _ (h.lt _ hy)
  clear h R bw lo
  go_enter Tryz.func9, Tryz.ntmps9
  go_wp2_with fail
  generalize w.alloc _ = w0 at *
  obtain ⟨f0, hf0⟩ : ∃ f, w.heap.size = f := ⟨_, rfl⟩
  rw [hf0] at HF0 hfl ⊢
  have HSZ := Lib.hid hf0
  clear hf0
  refine (bworks_any H0.out).mono ?_
  rintro e w' ⟨rfl, rfl⟩
  go_wp2_with fail
  have BW0 : Hid (Below W.heap.size W w0) := Lib.hid (HK0.out.onto BW.out BW.out.size (by simp))
  refine (ramof_any A m c ps _ (by unfold maxLen; omega) (PRow.keep R1.out BW0.out)).mono ?_
  rintro e w1 ⟨bO, hO⟩
  have HB1 : Hid (BuK g d P s w0 w1) := Lib.hid ⟨P, rfl, H0.out.keep bO, Kp.of_below (L := bL g P) bO, fun y hy => .inl hy, rfl, rfl, rfl⟩
  have hfl2 : f0 < w0.heap.size := HF0.out.lt
  have HF1 := Lib.hid (HF0.out.below bO HF0.out.lt)
  rcases hO with ⟨j', hj', hn, hi, rfl⟩ | ⟨hi, _⟩
  · have ej : j' = j := by
      rcases Nat.lt_trichotomy j' j with q | q | q
      · exact absurd (hg j' q) hn
      · exact q
      · exact absurd (hi j q) hb
    subst ej
    clear bO hn hi hg hb
    have hx := Blk.new w1 34 #[.int .i64 1, .int .i64 j']
    have HB2 := Lib.hid (HB1.out.on ((Kp.refl [] w1).alloc (.cells #[.int .i64 1, .int .i64 j'] 34)))
    have HF2 := Lib.hid (HF1.out.alloc (.cells #[.int .i64 1, .int .i64 j'] 34))
    have HX2 := Lib.hid hx
    have c0 : (w1.alloc (.cells #[.int .i64 1, .int .i64 j'] 34)).cell? ⟨f0, 0, none⟩ = some (.int .i64 0) := HF2.out.cell 0
    have c1 : (w1.alloc (.cells #[.int .i64 1, .int .i64 j'] 34)).cell? ⟨f0, 1, none⟩ = some (.int .i64 0) := HF2.out.cell 1
    have r0 : (w1.alloc (.cells #[.int .i64 1, .int .i64 j'] 34)).frozen? ⟨f0, 0, none⟩ = false := HF2.out.frozen 0
    have r1 : (w1.alloc (.cells #[.int .i64 1, .int .i64 j'] 34)).frozen? ⟨f0, 1, none⟩ = false := HF2.out.frozen 1
    clear hx
    go_wp2_with fail
    refine bodyPost_ret (v := .agg #[.int .i64 1, .int .i64 j']) (results_cell (a := ⟨f0, 0, none⟩) Tryz.results9 (by rfl) (((HF2.out.set_ 0 (.int .i64 1)).set_ 1 (.int .i64 j')).run_load (P := Tryz.prog) Tryz.underlying34 rfl (by kernel_rfl))) rfl ?_
    exact BuK.fin HK0.out HB2.out (((Kp.refl [f0] _).setCell (p := ⟨f0, 0, none⟩) (.inl (List.mem_singleton.2 rfl)) _).setCell (p := ⟨f0, 1, none⟩) (.inl (List.mem_singleton.2 rfl)) _) (NB.of HF2.out (by decide) (by decide)) hfl hfl2 (by rw [HSZ.out]; exact Nat.le_refl _)
  · exact absurd (hi j hj) hb
set_option maxHeartbeats 16000000 in
theorem bfill_good {W w : World} {g : Nat} {d : Hd} {P : Bp} {s : Bs} {A : Option Addr} {m c : Nat} {ps : Nat → Pc} (h : BU w g d P s) (bw : Below W.heap.size W w) (lo : ∀ y ∈ bL g P, W.heap.size ≤ y) (R : PRow W A m ps) (hm : m ≤ 1000)
    (hg : ∀ i, i < m → good 8192 (ps i)) :
    Calls Tryz.prog 9 #[.pointer (some ⟨g, 0, none⟩), .slice A m c] w (BuR (.agg #[.int .i64 0, .int .i64 0]) g d P { s with f := flt s.f ps m } w) := by
  have R1 := Lib.hid R
  have BW := Lib.hid bw
  have HLO := Lib.hid lo
  have H0 := Lib.hid (BU.kp0 h ((Kp.refl [] w).alloc (.cells #[.int .i64 0, .int .i64 0] 34)))
  have HF0 := Lib.hid (Blk.new w 34 #[.int .i64 0, .int .i64 0])
  have HK0 := Lib.hid ((Kp.refl [] w).alloc (.cells #[.int .i64 0, .int .i64 0] 34))
  have hfl : w.heap.size ∉ bL g P := fun hy => Nat.lt_irrefl _ (h.lt _ hy)
  clear h R bw lo
  go_enter Tryz.func9, Tryz.ntmps9
  go_wp2_with fail
  generalize w.alloc _ = w0 at *
  obtain ⟨f0, hf0⟩ : ∃ f, w.heap.size = f := ⟨_, rfl⟩
  rw [hf0] at HF0 hfl ⊢
  have HSZ := Lib.hid hf0
  clear hf0
  refine (bworks_any H0.out).mono ?_
  rintro e w' ⟨rfl, rfl⟩
  go_wp2_with fail
  have BW0 : Hid (Below W.heap.size W w0) := Lib.hid (HK0.out.onto BW.out BW.out.size (by simp))
  refine (ramof_any A m c ps _ (by unfold maxLen; omega) (PRow.keep R1.out BW0.out)).mono ?_
  rintro e w1 ⟨bO, hO⟩
  have HB1 : Hid (BuK g d P s w0 w1) := Lib.hid ⟨P, rfl, H0.out.keep bO, Kp.of_below (L := bL g P) bO, fun y hy => .inl hy, rfl, rfl, rfl⟩
  have hfl2 : f0 < w0.heap.size := HF0.out.lt
  have HF1 := Lib.hid (HF0.out.below bO HF0.out.lt)
  rcases hO with ⟨j', hj', hn, _, _⟩ | ⟨_, gO, mO, rfl, _, _, _⟩
  · exact absurd (hg j' hj') hn
  · have HG := Lib.hid hg
    clear bO hg
    have HB2 := Lib.hid (HB1.out.on ((Kp.refl [] w1).alloc (.cells #[.int .i64 0, .int .i64 0] 34)))
    have HF2 := Lib.hid (HF1.out.alloc (.cells #[.int .i64 0, .int .i64 0] 34))
    clear HB1 HF1
    go_wp2_with fail
    generalize World.alloc w1 _ = w2 at *
    generalize w1.heap.size = sx at *
    go_loopw [26] (fun i wr => ∃ k : Nat, k ≤ m ∧ i = .int .i64 k ∧ BuK g d P { s with f := flt s.f ps k } w0 wr ∧ Blk wr f0 34 #[.int .i64 0, .int .i64 0]) (fun i _ => m - (intOf i).toNat)
    case atStart => exact ⟨0, Nat.zero_le _, rfl, HB2.out, HF2.out⟩
    case round =>
      obtain ⟨k, hk, rfl, hb, hf⟩ := hrel
      have HB := Lib.hid hb
      have HF := Lib.hid hf
      clear hb hf HB2 HF2
      by_cases hlt : k < m
      · have BWr := HB.out.old BW0.out HLO.out
        obtain ⟨ad, rfl, hl, h0, h1, hp0, hp1, hp2, hp3⟩ := PRow.keep R1.out BWr k hlt
        obtain ⟨g0, g1⟩ := HG.out k hlt
        have hnx := cell_next h1
        obtain ⟨t, ht⟩ : ∃ t, (ps k).at_ = t := ⟨_, rfl⟩
        obtain ⟨pn, hpn⟩ : ∃ n, (ps k).n = n := ⟨_, rfl⟩
        obtain ⟨pA, hpA⟩ : ∃ a, (ps k).A = a := ⟨_, rfl⟩
        obtain ⟨pc, hpc⟩ : ∃ c, (ps k).c = c := ⟨_, rfl⟩
        rw [ht] at h0 g0 g1
        rw [hpn] at hnx g1
        rw [hpA, hpc] at hnx
        have HT := Lib.hid ht
        have HPN := Lib.hid hpn
        have HPA := Lib.hid hpA
        obtain ⟨Q1, q1, q2, q3, q4, q5, q6, q7⟩ := HB.out.off hfl hfl2
        have hb8 := q1.kp0 ((Kp.refl [] wr).alloc (.cells #[.int .i64 t, .slice pA pn pc] 131))
        have hq9 : wr.heap.size ∉ bL g Q1 := fun hy => Nat.lt_irrefl _ (q1.lt _ hy)
        have H8 := Lib.hid hb8
        have HP8 := Lib.hid (Blk.new wr 131 #[.int .i64 t, .slice pA pn pc])
        have HF8 := Lib.hid (HF.out.alloc (.cells #[.int .i64 t, .slice pA pn pc] 131))
        have BW8 := Lib.hid (BWr.alloc BWr.size (.cells #[.int .i64 t, .slice pA pn pc] 131))
        have HTH := Lib.hid (show Kp (bL g P) w0 (wr.alloc (.cells #[.int .i64 t, .slice pA pn pc] 131)) from q2.alloc _)
        have HQ3 := Lib.hid q3
        have HQ4 := Lib.hid (And.intro q4 (And.intro q5 q6))
        have LO8 : Hid (∀ y ∈ bL g Q1, W.heap.size ≤ y) := Lib.hid (fun y hy => (q3 y hy).elim (HLO.out y) (fun e => Nat.le_trans BW0.out.size e))
        have hpl : wr.heap.size < (wr.alloc (.cells #[.int .i64 t, .slice pA pn pc] 131)).heap.size := HP8.out.lt
        have hfl8 : f0 < (wr.alloc (.cells #[.int .i64 t, .slice pA pn pc] 131)).heap.size := HF8.out.lt
        clear h1 hp0 hp1 hp2 hp3 ht hpn hpA hpc q1 q2 q3 q4 q5 q6 hb8 HB HF BWr
        go_wp2_with fail
        generalize World.alloc wr _ = w8 at *
        obtain ⟨p0, hp0⟩ : ∃ p, wr.heap.size = p := ⟨_, rfl⟩
        rw [hp0] at HP8 hq9 hpl ⊢
        clear h0 hnx hp0 hl
        go_loopw [33] (fun i wq => ∃ j : Nat, j ≤ pn ∧ i = .int .i64 j ∧ BuK g d Q1 { s with f := laidTo (flt s.f ps k) (ps k) j } w8 wq ∧ Blk wq f0 34 #[.int .i64 0, .int .i64 0] ∧ Blk wq p0 131 #[.int .i64 t, .slice pA pn pc]) (fun i _ => pn - (intOf i).toNat)
        case atStart => exact ⟨0, Nat.zero_le _, rfl, by rw [laidTo_zero]; exact BuK.refl H8.out, HF8.out, HP8.out⟩
        case round =>
          obtain ⟨j, hj, rfl, hb, hf, hp⟩ := hrel
          have HB := Lib.hid hb
          have HF := Lib.hid hf
          have HP := Lib.hid hp
          clear hb hf hp H8 HF8 HP8
          by_cases hjl : j < pn
          · have BWq := HB.out.old BW8.out LO8.out
            have HB2 := HB.out
            obtain ⟨_, _, _, hrow⟩ := (PRow.keep R1.out BWq k hlt).choose_spec.2.2.2.2
            rw [HPA.out, HPN.out] at hrow
            obtain ⟨bd, rfl, hbl, hcb, hwf⟩ := hrow j hjl
            obtain ⟨z0, z1⟩ := bounds_u8 hwf
            obtain ⟨z, hz⟩ : ∃ z, (ps k).z j = z := ⟨_, rfl⟩
            rw [hz] at hcb z0 z1
            have HZ := Lib.hid hz
            obtain ⟨Q2, y1, y2, y3, y4, y5, y6, y7⟩ := HB.out.off q7 hfl8
            have hp7 : p0 ∉ bL g Q2 := fun hy => by
              rcases y3 p0 hy with e | e
              · exact hq9 e
              · omega
            have Y1 := Lib.hid y1
            have Y2 := Lib.hid y2
            have Y3 := Lib.hid y3
            have Y4 := Lib.hid (And.intro y4 (And.intro y5 y6))
            have c6 : wr.cell? ⟨g, 6, none⟩ = some (.pointer (some ⟨Q2.m, 0, none⟩)) := y1.cells.2.1
            have c0 : wr.cell? ⟨p0, 0, none⟩ = some (.int .i64 t) := HP.out.cell 0
            have j0 : (0 : Int) ≤ (j : Int) := by omega
            have j1 : (j : Int) < pn := by omega
            have tj : t + (j : Int) < 8192 := by omega
            have hwi : IntKind.i64.wrap (t + (j : Int)) = t + j := IntWalk.i64_in _ (by omega)
            have hwr : IntKind.u16.wrap (t + (j : Int)) = t + j := IntWalk.u16_in _ (by omega)
            clear hz hwf y1 y2 y3 y4 y5 y6 HB2 hrow BWq
            go_wp2_with fail
            refine rg_begin (S := fun w' => w'.cell? ⟨g, 6, none⟩ = some (.pointer (some ⟨Q2.m, 0, none⟩)) ∧ w'.cell? ⟨p0, 0, none⟩ = some (.int .i64 t)) 11 #[false, false, false, false, false, false, false, false, false, false, false] (by kernel_rfl) (by kernel_rfl) (by kernel_rfl) ?_ (fun hHeld => ?_)
            · exact ⟨c6, c0⟩
            refine rgt 0 (some 38) (v := ?_) rfl ?_ ?_
            rotate_left 1
            · (intro wS hSw; (try dsimp only at hSw); go_simp; try with_reducible rfl)
            refine rgt 1 (some 39) (v := ?_) rfl ?_ ?_
            rotate_left 1
            · (intro wS hSw; (try dsimp only at hSw); go_simp; try with_reducible rfl)
            refine rgt 2 (some 40) (v := ?_) rfl ?_ ?_
            rotate_left 1
            · (intro wS hSw; (try dsimp only at hSw); go_simp; try with_reducible rfl)
            refine rgt 3 (some 41) (v := ?_) rfl ?_ ?_
            rotate_left 1
            · (intro wS hSw; (try dsimp only at hSw); go_simp; try with_reducible rfl)
            refine rgt 4 (some 42) (v := ?_) rfl ?_ ?_
            rotate_left 1
            · (intro wS hSw; (try dsimp only at hSw); go_simp; try with_reducible rfl)
            refine rgt 5 (some 43) (v := ?_) rfl ?_ ?_
            rotate_left 1
            · (intro wS hSw; (try dsimp only at hSw); go_simp; try with_reducible rfl)
            refine rgt 6 (some 44) (v := ?_) rfl ?_ ?_
            rotate_left 1
            · (intro wS hSw; (try dsimp only at hSw); go_simp; try with_reducible rfl)
            refine rgt 7 (some 45) (v := ?_) rfl ?_ ?_
            rotate_left 1
            · (intro wS hSw; (try dsimp only at hSw); go_simp; try with_reducible rfl)
            try simp only [Act.put, List.setIfInBounds_toArray, List.set_cons_zero, List.set_cons_succ]
            try rw [hwi]
            refine rgt 8 (some 46) (v := ?_) rfl ?_ ?_
            rotate_left 1
            · (intro wS hSw; (try dsimp only at hSw); go_simp; try with_reducible rfl)
            try simp only [Act.put, List.setIfInBounds_toArray, List.set_cons_zero, List.set_cons_succ]
            try rw [hwr]
            refine rgt 9 (some 47) (v := ?_) rfl ?_ ?_
            rotate_left 1
            · (intro wS hSw; (try dsimp only at hSw); go_simp; try with_reducible rfl)
            try simp only [Act.put, List.setIfInBounds_toArray, List.set_cons_zero, List.set_cons_succ]
            refine rg_next (i := 10) (l := #[true, true, true, true, true, true, true, true, true, true, true]) (fuel := 0) (by kernel_rfl) rfl (by kernel_rfl) (by kernel_rfl) (fun K hK => ?_)
            go_simp
            (go_at_call 46)
            refine (rwrite_any (w := wr.drew) (by exact Y1.out.ram) (t + j) z (by omega) (by omega)).mono ?_
            intro e w3 hW
            have HWr := Lib.hid hW
            obtain ⟨rfl, mb', x1, x2, x3⟩ := hW
            have HF3 : Hid (Blk w3 f0 34 #[.int .i64 0, .int .i64 0]) := Lib.hid (HF.out.drew_.kp x2 (fun hy => y7 (mem_mb hy)))
            have HP3 : Hid (Blk w3 p0 131 #[.int .i64 t, .slice (some bd) pn pc]) := Lib.hid (HP.out.drew_.kp x2 (fun hy => hp7 (mem_mb hy)))
            have HBn := Lib.hid (BuK.write (HB.out.on (Kp.refl [] wr).drew) z0 z1 (Y1.out.kp0 (Kp.refl [] wr).drew) (Y2.out.drew) Y3.out Y4.out.1 Y4.out.2.1 Y4.out.2.2 HWr.out)
            clear x1 x2 x3 c6 c0
            have c0 : w3.cell? ⟨p0, 0, none⟩ = some (.int .i64 t) := HP3.out.cell 0
            have c6 : w3.cell? ⟨g, 6, none⟩ = some (.pointer (some ⟨Q2.m, 0, none⟩)) := by obtain ⟨Q9, _, u1, _, _, _, _, u6⟩ := HBn.out; have := u1.cells.2.1; rw [this, u6, Y4.out.2.2]
            first | (refine hK.out _ _ ?_ (fun hHeld => ?_)) | (go_wp2_with fail; refine hK.out _ _ ?_ (fun hHeld => ?_))
            · (try dsimp only); exact ⟨c6, c0⟩
            clear hK K
            try simp only [Act.put, List.setIfInBounds_toArray, List.set_cons_zero, List.set_cons_succ]
            refine wpAnyH_done (by kernel_rfl) ?_ _
            clear hHeld
            go_wp2_with fail
            go_roundw
            case rel => exact ⟨j + 1, by omega, by go_num, by have := HBn.out; rw [← HT.out, ← HZ.out] at this; rw [← laidTo_fw _ _ _ (by rw [HT.out]; exact g0) (by rw [HT.out]; exact tj)]; exact this, HF3.out, HP3.out⟩
            case measure => simp [intOf]; omega
          · obtain rfl : j = pn := by omega
            have HBn : Hid (BuK g d P { s with f := flt s.f ps (k + 1) } w0 wr) := Lib.hid (by
              have := BuR.then_ HTH.out HQ3.out HQ4.out HB.out
              rw [← HPN.out] at this
              exact this)
            go_wp2_with fail
            exact ⟨⟨k + 1, by omega, by go_num, HBn.out, HF.out⟩, by simp [intOf]; omega⟩
      · obtain rfl : k = m := by omega
        have c0 : wr.cell? ⟨f0, 0, none⟩ = some (.int .i64 0) := HF.out.cell 0
        have c1 : wr.cell? ⟨f0, 1, none⟩ = some (.int .i64 0) := HF.out.cell 1
        have r0 : wr.frozen? ⟨f0, 0, none⟩ = false := HF.out.frozen 0
        have r1 : wr.frozen? ⟨f0, 1, none⟩ = false := HF.out.frozen 1
        go_wp2_with fail
        refine bodyPost_ret (v := .agg #[.int .i64 0, .int .i64 0]) (results_cell (a := ⟨f0, 0, none⟩) Tryz.results9 (by rfl) (((HF.out.set_ 0 (.int .i64 0)).set_ 1 (.int .i64 0)).run_load (P := Tryz.prog) Tryz.underlying34 rfl (by kernel_rfl))) rfl ?_
        exact BuK.fin HK0.out HB.out (((Kp.refl [f0] _).setCell (p := ⟨f0, 0, none⟩) (.inl (List.mem_singleton.2 rfl)) _).setCell (p := ⟨f0, 1, none⟩) (.inl (List.mem_singleton.2 rfl)) _) (NB.of HF.out (by decide) (by decide)) hfl hfl2 (by rw [HSZ.out]; exact Nat.le_refl _)
end Go.Proofs.YtleofglnlfpoeaaGreat
