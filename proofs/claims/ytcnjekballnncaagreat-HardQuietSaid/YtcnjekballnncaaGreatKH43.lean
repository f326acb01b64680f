/-
  Texts of these proofs, one behind the other: Hj4, Hj5.
-/
import Derived.Test.YtcnjekballnncaaGreatKH42
import Derived.Lib.SmallJoins
namespace Go.Proofs.YtcnjekballnncaaGreat
open Go.RowKit
open Go.ChangeShapes Go.WideShapes Go.ChangeAt
open Go.Deep
set_option linter.unusedVariables false
set_option linter.unusedSimpArgs false
set_option maxRecDepth 100000
section
variable {H : Type} {enc : TypeId × Value → H} {P : Program} {w : World} {base : Nat} {r : Reach} {b0 : Nat} {t e : TypeId} {v : Value} {d : DataW H} {ps : List MemPlace}
theorem field_ints2 {t e : TypeId} {k : IntKind} {fuel : Nat} {v : Value} {y : DataW H × List MemPlace} (ht : P.underlying t = some (.slice e)) (he : P.underlying e = some (.int k)) (hc : P.cellsOf e = 1)
    (h : DataW.trod enc P w base (fun _ => true) true fuel t [v] = some y) : ∃ A n cap zs, v = .slice A n cap ∧ n ≤ cap ∧ cap ≤ maxLen ∧ IRow w k A n zs ∧ (A = none → n = 0 ∧ cap = 0) := by
  rcases open_ints ht he hc h with ⟨hcs, _⟩ | ⟨a, len', cap', zs, hcs, _, hl, hm, hz, _, hcell, hwz⟩
  · simp only [List.cons.injEq, and_true] at hcs
    subst hcs
    exact ⟨none, 0, 0, fun _ => 0, rfl, Nat.le_refl _, by unfold maxLen; omega, fun i hi => absurd hi (by omega), fun _ => ⟨rfl, rfl⟩⟩
  · simp only [List.cons.injEq, and_true] at hcs
    subst hcs
    simp only [if_true] at hz
    refine ⟨some a, len', cap', fun i => zs.getD i 0, rfl, hl, hm, fun i hi => ⟨a, rfl, ?_, hcell i (by omega), ?_⟩, fun x => by cases x⟩
    · have := cell_lt (hcell i (by omega)); rwa [block_of_add] at this
    · have hi' : i < zs.length := by omega
      exact hwz _ (by simp [List.getD, List.getElem?_eq_getElem hi'])
/-- Three slices of bytes, by value. -/
structure Fz where
  A : Option Addr
  n : Nat
  c : Nat
  z : Nat → Int
def FzOk (w : World) (p : Fz) : Prop := p.n ≤ p.c ∧ p.c ≤ maxLen ∧ IRow w .u8 p.A p.n p.z ∧ (p.A = none → p.n = 0 ∧ p.c = 0)
theorem feeds_value {f0 f1 f2 : Field} {eb : TypeId} (he : P.underlying e = some (.struct #[f0, f1, f2])) (hone : oneCellFields P #[f0, f1, f2] = true) (hC : P.cellsOf e = 3)
    (h0 : P.underlying f0.type = some (.slice eb)) (h1 : P.underlying f1.type = some (.slice eb)) (h2 : P.underlying f2.type = some (.slice eb)) (h3 : P.underlying eb = some (.int .u8)) (h4 : P.cellsOf eb = 1)
    (hval : Value.okWide P w r b0 e v) (hd : DataW.Trod enc P w base (fun _ => true) true e v d ps) :
    ∃ p q s : Fz, v = .agg #[.slice p.A p.n p.c, .slice q.A q.n q.c, .slice s.A s.n s.c] ∧ FzOk w p ∧ FzOk w q ∧ FzOk w s := by
  obtain ⟨v0, v1, v2, y0, y1, y2, n, rfl, _, _, t0, t1, t2⟩ := Go.Joins.open_agg3 he hone hC hval hd
  obtain ⟨A0, n0, c0, z0, rfl, g0⟩ := field_ints2 h0 h3 h4 t0
  obtain ⟨A1, n1, c1, z1, rfl, g1⟩ := field_ints2 h1 h3 h4 t1
  obtain ⟨A2, n2, c2, z2, rfl, g2⟩ := field_ints2 h2 h3 h4 t2
  exact ⟨⟨A0, n0, c0, z0⟩, ⟨A1, n1, c1, z1⟩, ⟨A2, n2, c2, z2⟩, rfl, g0, g1, g2⟩
end
section
variable {W w w1 w' : World} {g g2 : Nat} {d : Hd} {b b2 : Hb} {r r2 : Nat} {J J2 : Rr} {Z : Rz} {x y : Hp}
theorem RHp.lt (h : RHp w r d J Z x) : ∀ y ∈ J.all r, y < w.heap.size := by
  intro y hy
  simp only [Rr.all, List.mem_cons, List.not_mem_nil, or_false] at hy
  rcases hy with rfl | rfl | rfl | rfl | rfl | rfl | rfl
  · exact h.pg.lt
  · exact h.tm.1.lt
  · exact h.q.1.lt
  · exact h.pt.1.lt
  · exact h.v.lt
  · exact h.c.lt
  · exact h.l.lt
theorem HP.ltL (h : HP w g d b x) : ∀ y ∈ [g, b.v, b.c, b.p], y < w.heap.size := by
  intro y hy
  obtain ⟨a1, a2, a3, a4⟩ := h.lt
  simp only [List.mem_cons, List.not_mem_nil, or_false] at hy
  rcases hy with rfl | rfl | rfl | rfl <;> assumption
theorem HX.typed (h : HX W w g d b r J Z x) : ∀ y ∈ hxL g b r J, ∃ t cs, Blk w y t cs ∧ 5 ≠ t ∧ 129 ≠ t := by
  intro y hy
  rcases List.mem_append.1 hy with hy | hy
  · obtain ⟨T, cs, hb, hT⟩ := h.hp.boxes y hy
    exact ⟨T, cs, hb, by rcases hT with rfl | rfl | rfl <;> decide, by rcases hT with rfl | rfl | rfl <;> decide⟩
  · exact h.rh.typed y hy
theorem HX.lt (h : HX W w g d b r J Z x) : ∀ y ∈ hxL g b r J, y < w.heap.size := fun y hy => (List.mem_append.1 hy).elim (h.hp.ltL y) (h.rh.lt y)
theorem HX.loA (h : HX W w g d b r J Z x) : ∀ y ∈ hxL g b r J, W.heap.size ≤ y := fun y hy => (List.mem_append.1 hy).elim (h.lo.1 y) (h.lo.2 y)
/-- What is done to others, made later, doesn't matter. -/
theorem HX.other (h : HX W w g d b r J Z x) {L : List Nat} (k : Kp L w w') (hT : ∀ y ∈ L, ∃ t cs, Blk w y t cs ∧ 5 ≠ t ∧ 129 ≠ t) (hW : ∀ y ∈ L, W.heap.size ≤ y) (hn : ∀ y ∈ hxL g b r J, y ∉ L) : HX W w' g d b r J Z x := by
  have hg : ∀ y ∈ [g, b.v, b.c, b.p], y ∉ L := fun y hy => hn y (List.mem_append_left _ hy)
  have hr : ∀ y ∈ J.all r, y ∉ L := fun y hy => hn y (List.mem_append_right _ hy)
  exact ⟨h.hp.kp k hT ⟨hg _ (by simp), hg _ (by simp), hg _ (by simp), hg _ (by simp)⟩,
    h.rh.kp k ⟨hr _ (by simp [Rr.all]), hr _ (by simp [Rr.all]), hr _ (by simp [Rr.all]), hr _ (by simp [Rr.all]), hr _ (by simp [Rr.all]), hr _ (by simp [Rr.all]), hr _ (by simp [Rr.all])⟩, k.onto h.bw h.bw.size hW, h.lo⟩
end
def dV : Hd := ⟨0, es0, 1, fun _ => 9, 0, fun _ => 0, 0, fun _ => 0⟩
set_option maxHeartbeats 8000000 in
theorem liveH_any (w : World) : Calls Tryz.prog 6 #[] w fun e w' => e = .returned (.bool true) ∧ Below w.heap.size w w' := by
  obtain ⟨B, hB⟩ : ∃ B, w.heap.size = B := ⟨_, rfl⟩
  have HB := Lib.hid hB
  go_enter Tryz.func6, Tryz.ntmps6
  go_upto_region 1 with fail
  have b1 : Below B w (w.alloc (.cells #[.int .u8 9] 5)) := hB ▸ (Below.refl _ _).alloc (Nat.le_refl _) _
  have q1 := Blk.new w 5 #[.int .u8 9]
  rw [hB] at q1
  have hz1 : B ≤ (w.alloc (.cells #[.int .u8 9] 5)).heap.size := hB ▸ b1.size
  go_wp2_with fail
  generalize w.alloc _ = w1 at *
  have R1 : IRow w1 .u8 (some ⟨B, 0, none⟩) 1 (fun _ => 9) := fun i hi => by
    obtain rfl : i = 0 := by omega
    exact ⟨⟨B, 0, none⟩, rfl, q1.lt, q1.cell 0, by decide⟩
  refine (hnew_yes (n1 := 1) (c1 := 1) (z1 := fun _ => 9) (z2 := fun _ => 0) (z3 := fun _ => 0) (es := es0) (fun x => by cases x) (fun _ => ⟨rfl, rfl⟩) (fun _ => ⟨rfl, rfl⟩) (fun _ => ⟨rfl, rfl⟩) R1 (fun i hi => absurd hi (by omega)) (fun i hi => absurd hi (by omega)) (fun i hi => absurd hi (by omega)) (by omega) (by omega) (by decide) ⟨by omega, fun j hj => absurd hj (by omega), fun j hj => absurd hj (by omega)⟩).mono ?_
  rintro e w2 ⟨g, b, rfl, hg, h2, b2⟩
  have T2 : Hid (HT B w g dV b Hp.new w2) := Lib.hid ⟨h2, b1.trans (b2.mono hz1), Nat.le_trans hz1 b2.size, ⟨Nat.le_trans hz1 hg.1, Nat.le_trans hz1 hg.2.1, Nat.le_trans hz1 hg.2.2.1, Nat.le_trans hz1 hg.2.2.2⟩⟩
  clear h2 b2 b1 q1 R1 hg hz1 hB
  go_upto_region 2 with fail
  have T3 := Lib.hid (T2.out.on ((Below.refl w2.heap.size w2).alloc (Nat.le_refl _) (.cells #[.int .i64 0, .int .i64 0] 32)))
  have F3 := Lib.hid (Blk.new w2 32 #[.int .i64 0, .int .i64 0])
  generalize World.alloc _ _ = w3 at *
  generalize w2.heap.size = gf at *
  have hof : gf ∉ [g, b.v, b.c, b.p] := fun hy => by
    obtain ⟨T, cs, q, hT⟩ := T3.out.1.boxes gf hy
    rcases hT with rfl | rfl | rfl
    · exact F3.out.ne_ q (by decide) rfl
    · exact F3.out.ne_ q (by decide) rfl
    · exact F3.out.ne_ q (by decide) rfl
  clear T2
  go_wp2_with fail
  refine (hwrite_v T3.out.1 ⟨by decide, by decide, by decide⟩ (k := 8) (r := 2) (y := Hp.new.wr 8 2 7) (by decide) (by decide) (by decide) (by decide) (by decide) (by decide) rfl).mono ?_
  rintro e w4 ⟨rfl, y4, k4⟩
  have T4 := Lib.hid (T3.out.go (fun _ h => h) y4 k4)
  have F4 := Lib.hid (F3.out.kp k4 hof)
  clear y4 k4 T3 F3
  go_wp2_with fail
  refine (hread_v T4.out.1 ⟨by decide, by decide, by decide⟩ (k := 8) (r := 2) (v := 7) (y := (Hp.new.wr 8 2 7).rd dV 8 2) (by decide) (by decide) (by decide) (by decide) (by kernel_rfl) rfl).mono ?_
  rintro e w5 ⟨rfl, y5, k5⟩
  have T5 := Lib.hid (T4.out.go (fun _ h => h) y5 k5)
  have F5 := Lib.hid (F4.out.kp k5 hof)
  clear y5 k5 T4 F4
  go_wp2_with fail
  refine (hwrite_v T5.out.1 ⟨by decide, by decide, by decide⟩ (k := 6) (r := 0) (y := ((Hp.new.wr 8 2 7).rd dV 8 2).wr 6 0 255) (by decide) (by decide) (by decide) (by decide) (by decide) (by decide) rfl).mono ?_
  rintro e w6 ⟨rfl, y6, k6⟩
  have T6 := Lib.hid (T5.out.go (fun _ h => h) y6 k6)
  have F6 := Lib.hid (F5.out.kp k6 hof)
  clear y6 k6 T5 F5
  go_wp2_with fail
  refine (hread_v T6.out.1 ⟨by decide, by decide, by decide⟩ (k := 6) (r := 0) (v := 128) (y := (((Hp.new.wr 8 2 7).rd dV 8 2).wr 6 0 255).rd dV 6 0) (by decide) (by decide) (by decide) (by decide) (by kernel_rfl) rfl).mono ?_
  rintro e w7 ⟨rfl, y7, k7⟩
  have T7 := Lib.hid (T6.out.go (fun _ h => h) y7 k7)
  have F7 := Lib.hid (F6.out.kp k7 hof)
  clear y7 k7 T6 F6
  go_wp2_with fail
  refine (hread_v T7.out.1 ⟨by decide, by decide, by decide⟩ (k := 3) (r := 0) (v := 9) (y := ((((Hp.new.wr 8 2 7).rd dV 8 2).wr 6 0 255).rd dV 6 0).rd dV 3 0) (by decide) (by decide) (by decide) (by decide) (by kernel_rfl) rfl).mono ?_
  rintro e w8 ⟨rfl, y8, k8⟩
  have T8 := Lib.hid (T7.out.go (fun _ h => h) y8 k8)
  have F8 := Lib.hid (F7.out.kp k8 hof)
  clear y8 k8 T7 F7
  go_wp2_with fail
  refine (hread_v T8.out.1 ⟨by decide, by decide, by decide⟩ (k := 2) (v := 255) (y := ((((Hp.new.wr 8 2 7).rd dV 8 2).wr 6 0 255).rd dV 6 0).rd dV 3 0) (by decide) (by decide) (by decide) rfl rfl rfl).mono ?_
  rintro e w9 ⟨rfl, y9, k9⟩
  have T9 := Lib.hid (T8.out.go (fun _ h => h) y9 k9)
  have F9 := Lib.hid (F8.out.kp k9 hof)
  clear y9 k9 T8 F8
  go_wp2_with fail
  refine (hgo_nil _ _).mono ?_
  rintro e w' ⟨rfl, rfl⟩
  go_wp2_with fail
  refine (hwrite_nil _ _ _).mono ?_
  rintro e w' ⟨rfl, rfl⟩
  go_wp2_with fail
  have cf0 : w9.cell? ⟨gf, 0, none⟩ = some (.int .i64 0) := F9.out.cell 0
  have cf1 : w9.cell? ⟨gf, 1, none⟩ = some (.int .i64 0) := F9.out.cell 1
  refine (hentered_nil _ _).mono ?_
  rintro e w' ⟨rfl, rfl⟩
  go_wp2_with fail
  refine (hstatus_any T9.out.1).mono ?_
  rintro e w10 ⟨rfl, b10⟩
  have T10 := Lib.hid (T9.out.on b10)
  have hfv : ∀ W : World, (Instr.field 42 (.agg (stC (((((Hp.new.wr 8 2 7).rd dV 8 2).wr 6 0 255).rd dV 6 0).rd dV 3 0))) 9).run Tryz.prog W = .ok (.int .i64 1) W := fun W => fieldVdc _ W
  clear b10 T9 F9 cf0 cf1
  go_wp2_with fail
  refine (hread_nil _ _).mono ?_
  rintro e w' ⟨rfl, rfl⟩
  clear hfv
  go_wp2_with fail
  refine (hchoose_nil _ _).mono ?_
  rintro e w' ⟨rfl, rfl⟩
  go_wp2_with fail
  refine (hclone_nil _).mono ?_
  rintro e w' ⟨rfl, rfl⟩
  go_wp2_with fail
  refine (hstatus_nil _).mono ?_
  rintro e w11 ⟨rfl, b11⟩
  have T11 := Lib.hid (T10.out.on b11)
  clear b11 T10
  go_wp2_with fail
  refine (hnow_nil _).mono ?_
  rintro e w' ⟨rfl, rfl⟩
  go_wp2_with fail
  go_ret
  exact ⟨rfl, by rw [HB.out]; exact T11.out.2.1⟩
end Go.Proofs.YtcnjekballnncaaGreat
namespace Go.Proofs.YtcnjekballnncaaGreat
open Go.RowKit
set_option linter.unusedVariables false
set_option linter.unusedSimpArgs false
set_option maxRecDepth 100000
theorem pass_mono {es : Nat → Iib} {n s : Nat} {t u : Int} (hs : s ≤ n) (h : t ≤ u) : pass es n u (pass es n t s) = pass es n u s ∧ s ≤ pass es n t s ∧ pass es n t s ≤ pass es n u s ∧ pass es n t s ≤ n := by
  obtain ⟨k, h1, h2, h3, h4⟩ := pass_ex (es := es) (n := n) (t := t) (s := s) hs
  have h5 := pass_run (es := es) (n := n) (t := u) (s := s) k (fun i hi => ⟨by omega, Int.le_trans (h3 i hi) h⟩)
  obtain ⟨k2, g1, g2, g3, g4⟩ := pass_ex (es := es) (n := n) (t := u) (s := s + k) h2
  rw [h1]
  exact ⟨h5.symm, by omega, by rw [h5, g1]; omega, h2⟩
theorem roseTo_add (es : Nat → Iib) (r : Bool) (s a b : Nat) : roseTo es r s (a + b) = roseTo es (roseTo es r s a) (s + a) b := by
  induction b with
  | zero => rfl
  | succ b ih =>
    rw [← Nat.add_assoc]
    simp only [roseTo]
    rw [ih, Nat.add_assoc]
theorem Hp.to_now {d : Hd} {x : Hp} {t : Int} (h : x.now ≤ t) : (x.to d t).now = t := by
  unfold Hp.to
  split
  · omega
  · rfl
theorem Hp.to_two {d : Hd} {x : Hp} (hok : x.ok d) {t u : Int} (h1 : x.now ≤ t) (h2 : t ≤ u) : (x.to d t).to d u = x.to d u := by
  by_cases e1 : t ≤ x.now
  · have : x.to d t = x := by unfold Hp.to; rw [if_pos e1]
    rw [this]
  · by_cases e2 : u ≤ t
    · obtain rfl : u = t := by omega
      have hn := Hp.to_now (d := d) h1
      unfold Hp.to at hn ⊢
      rw [if_neg e1] at hn ⊢
      rw [if_pos (by exact Int.le_refl _)]
    · obtain ⟨p1, p2, p3, p4⟩ := pass_mono (es := d.es) (n := d.n) (s := x.s) (t := t) (u := u) hok.2.1 h2
      obtain ⟨g1, g2⟩ := Tm.go_add hok.1 (t - x.now).toNat (u - t).toNat
      rw [show (t - x.now).toNat + (u - t).toNat = (u - x.now).toNat by omega] at g1 g2
      unfold Hp.to
      rw [if_neg e1, if_neg (by omega : ¬ u ≤ x.now)]
      rw [if_neg (show ¬ u ≤ t by omega)]
      dsimp only
      rw [p1, g1, g2]
      have hr : roseTo d.es (roseTo d.es x.ro x.s (pass d.es d.n t x.s - x.s)) (pass d.es d.n t x.s) (pass d.es d.n u x.s - pass d.es d.n t x.s) = roseTo d.es x.ro x.s (pass d.es d.n u x.s - x.s) := by
        have := roseTo_add d.es x.ro x.s (pass d.es d.n t x.s - x.s) (pass d.es d.n u x.s - pass d.es d.n t x.s)
        rw [show x.s + (pass d.es d.n t x.s - x.s) = pass d.es d.n t x.s by omega, show pass d.es d.n t x.s - x.s + (pass d.es d.n u x.s - pass d.es d.n t x.s) = pass d.es d.n u x.s - x.s by omega] at this
        exact this.symm
      rw [hr]
      congr 1
      by_cases o1 : 0 < x.tm.overN (t - x.now).toNat
      · rw [if_pos o1, if_pos (by omega : 0 < x.tm.overN (t - x.now).toNat + _)]
        split <;> rfl
      · have o2 : x.tm.overN (t - x.now).toNat = 0 := by omega
        rw [if_neg o1, o2, Nat.zero_add]
end Go.Proofs.YtcnjekballnncaaGreat
