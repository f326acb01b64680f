/-
  Texts of these proofs, one behind the other: Scr28, Scr29, Scr30.
-/
import Derived.Test.YtnhnphifhkkboaaDoorKSW39
import Derived.Test.YtnhnphifhkkboaaDoorKSW40
import Derived.Test.YtnhnphifhkkboaaDoorKSW18
namespace Go.Proofs.YtnhnphifhkkboaaDoor
open Go.RowKit Go.Shelf
set_option linter.unusedVariables false
set_option linter.unusedSimpArgs false
set_option maxRecDepth 100000
/-- Alike, plain. -/
structure Alike (P Q : Ps) : Prop where
  n : P.n = Q.n
  z : ∀ i, i < P.n → P.z i = Q.z i
  vdc : P.vdc = Q.vdc
  vce : P.vce = Q.vce
  port : P.port = Q.port
  edges : P.edges = Q.edges
  bud : P.bud = Q.bud
theorem Alike.refl (P : Ps) : Alike P P := ⟨rfl, fun _ _ => rfl, rfl, rfl, rfl, rfl, rfl⟩
theorem edge_neq (a b : Int) (c : Bool) (W : World) : (binOp .neq 31 (.agg #[.int .i64 a, .int .u8 b, .bool c]) (.agg #[.int .i64 a, .int .u8 b, .bool c])).run Tryd.prog W = .ok (.bool false) W := by
  have h1 : (a == a) = true := by simp
  have h2 : (b == b) = true := by simp
  have h3 : (c == c) = true := by simp
  rw [run_neq_struct, run_equalIn_struct]
  · go_simp
    done
  · kernel_rfl
  · kernel_rfl
theorem edge_ne {o : Oper} {ρ : Operand → Value} {w : World} {x y : Operand} (a b : Int) (c : Bool) (ho : o.op = .binOp .neq 31 x y 31) (hx : ρ x = .agg #[.int .i64 a, .int .u8 b, .bool c]) (hy : ρ y = .agg #[.int .i64 a, .int .u8 b, .bool c]) : (execOp ρ o).run Tryd.prog w = .ok (.value (.bool false)) w := by
  have hg : (eqGuard .neq 31 x y (.agg #[.int .i64 a, .int .u8 b, .bool c]) (.agg #[.int .i64 a, .int .u8 b, .bool c])).run Tryd.prog w = .ok () w := run_eqGuard_agg w .neq 31 x y _ _ (by kernel_rfl)
  have he := edge_neq a b c w
  unfold execOp
  simp only [ho, hx, hy, Sem.run_bind, hg, he, Result.andThen_ok, Sem.run_pure]
set_option maxHeartbeats 16000000 in
theorem rsame_yes {w : World} (s s' : Sv) (P Q : Ps) (h : ScrV w s P) (h' : ScrV w s' Q) (hA : Alike P Q) :
    Calls Tryd.prog 15 #[.agg s.cs, .agg s'.cs] w fun e w' => e = .returned (.bool true) ∧ Below w.heap.size w w' := by
  obtain ⟨A, n, ca, V, a, cv, C, b, cc, R, c, cr, E, m, ce, bud⟩ := s
  obtain ⟨A', n', ca', V', a', cv', C', b', cc', R', c', cr', E', m', ce', bud'⟩ := s'
  obtain ⟨a1, a2, a3, a4, a5, a6⟩ := h
  obtain ⟨b1, b2, b3, b4, b5, b6⟩ := h'
  dsimp only at *
  obtain rfl : n' = n := by rw [a1.1, b1.1, hA.n]
  obtain rfl : a' = a := by rw [a2.1, b2.1, hA.vdc]
  obtain rfl : b' = b := by rw [a3.1, b3.1, hA.vce]
  obtain rfl : c' = c := by rw [a4.1, b4.1, hA.port]
  obtain rfl : m' = m := by rw [a5.1, b5.1, hA.edges]
  obtain rfl : bud' = bud := by rw [a6, b6, hA.bud]
  have e1 : ((m' : Int) != m') = false := by simp
  have e2 : (bud' != bud') = false := by simp
  have S1 := Lib.hid (fun (W : World) (hb : Below w.heap.size w W) => asame2 (c := ca) (d := ca') (Nat.le_trans a1.2.1 a1.2.2.1) (a1.2.2.2.1.keep hb) (b1.2.2.2.1.keep hb) (fun i hi => hA.z i (a1.1 ▸ hi)))
  have S2 := Lib.hid (fun (W : World) (hb : Below w.heap.size w W) => asame2 (c := cv) (d := cv') (Nat.le_trans a2.2.1 a2.2.2.1) (a2.2.2.2.1.keep hb) (b2.2.2.2.1.keep hb) (fun i _ => by rw [hA.vdc]))
  have S3 := Lib.hid (fun (W : World) (hb : Below w.heap.size w W) => asame2 (c := cc) (d := cc') (Nat.le_trans a3.2.1 a3.2.2.1) (a3.2.2.2.1.keep hb) (b3.2.2.2.1.keep hb) (fun i _ => by rw [hA.vce]))
  have S4 := Lib.hid (fun (W : World) (hb : Below w.heap.size w W) => asame2 (c := cr) (d := cr') (Nat.le_trans a4.2.1 a4.2.2.1) (a4.2.2.2.1.keep hb) (b4.2.2.2.1.keep hb) (fun i _ => by rw [hA.port]))
  have hm : m' ≤ maxLen := Nat.le_trans a5.2.1 a5.2.2.1
  unfold maxLen at hm
  have EE := Lib.hid (And.intro a5.2.2.2.1 (show ERow w E' m' (eL P.edges) by rw [hA.edges]; exact b5.2.2.2.1))
  obtain ⟨es, hes⟩ : ∃ es, eL P.edges = es := ⟨_, rfl⟩
  rw [hes] at EE
  clear a1 a2 a3 a4 a5 a6 b1 b2 b3 b4 b5 b6 hA hes
  unfold Sv.cs
  dsimp only
  go_enter Tryd.func15, Tryd.ntmps15
  go_upto_region 1 with fail
  have hX : Blk ((w.alloc (.cells #[.slice A n' ca, .slice V a' cv, .slice C b' cc, .slice R c' cr, .slice E m' ce, .int .i64 bud'] 27)).alloc (.cells #[.slice A' n' ca', .slice V' a' cv', .slice C' b' cc', .slice R' c' cr', .slice E' m' ce', .int .i64 bud'] 27)) w.heap.size 27 #[.slice A n' ca, .slice V a' cv, .slice C b' cc, .slice R c' cr, .slice E m' ce, .int .i64 bud'] := (Blk.new w _ _).alloc _
  have hY : Blk ((w.alloc (.cells #[.slice A n' ca, .slice V a' cv, .slice C b' cc, .slice R c' cr, .slice E m' ce, .int .i64 bud'] 27)).alloc (.cells #[.slice A' n' ca', .slice V' a' cv', .slice C' b' cc', .slice R' c' cr', .slice E' m' ce', .int .i64 bud'] 27)) (w.heap.size + 1) 27 #[.slice A' n' ca', .slice V' a' cv', .slice C' b' cc', .slice R' c' cr', .slice E' m' ce', .int .i64 bud'] := Blk.new_ (by simp)
  have hB : Below w.heap.size w ((w.alloc (.cells #[.slice A n' ca, .slice V a' cv, .slice C b' cc, .slice R c' cr, .slice E m' ce, .int .i64 bud'] 27)).alloc (.cells #[.slice A' n' ca', .slice V' a' cv', .slice C' b' cc', .slice R' c' cr', .slice E' m' ce', .int .i64 bud'] 27)) := ((Below.refl _ w).alloc (Nat.le_refl _) _).alloc (by simp) _
  generalize World.alloc (World.alloc w _) _ = w1 at hX hY hB ⊢
  obtain ⟨x, hx⟩ : ∃ x, w.heap.size = x := ⟨_, rfl⟩
  obtain ⟨y, hy⟩ : ∃ y, x + 1 = y := ⟨_, rfl⟩
  rw [hx, hy] at hY
  rw [hx] at hX
  rw [hx, hy]
  have H0 := Lib.hid (And.intro hX (And.intro hY hB))
  clear hX hY hB hx hy
  have p0 : w1.cell? ⟨x, 0, none⟩ = some (.slice A n' ca) := H0.out.1.cell 0
  have p1 : w1.cell? ⟨x, 1, none⟩ = some (.slice V a' cv) := H0.out.1.cell 1
  have p2 : w1.cell? ⟨x, 2, none⟩ = some (.slice C b' cc) := H0.out.1.cell 2
  have p3 : w1.cell? ⟨x, 3, none⟩ = some (.slice R c' cr) := H0.out.1.cell 3
  have p4 : w1.cell? ⟨x, 4, none⟩ = some (.slice E m' ce) := H0.out.1.cell 4
  have p5 : w1.cell? ⟨x, 5, none⟩ = some (.int .i64 bud') := H0.out.1.cell 5
  have q0 : w1.cell? ⟨y, 0, none⟩ = some (.slice A' n' ca') := H0.out.2.1.cell 0
  have q1 : w1.cell? ⟨y, 1, none⟩ = some (.slice V' a' cv') := H0.out.2.1.cell 1
  have q2 : w1.cell? ⟨y, 2, none⟩ = some (.slice C' b' cc') := H0.out.2.1.cell 2
  have q3 : w1.cell? ⟨y, 3, none⟩ = some (.slice R' c' cr') := H0.out.2.1.cell 3
  have q4 : w1.cell? ⟨y, 4, none⟩ = some (.slice E' m' ce') := H0.out.2.1.cell 4
  have q5 : w1.cell? ⟨y, 5, none⟩ = some (.int .i64 bud') := H0.out.2.1.cell 5
  go_wp2_with fail
  clear p0 p1 p2 p3 p4 p5 q0 q1 q2 q3 q4 q5
  refine (S1.out _ H0.out.2.2).mono ?_
  rintro e w2 ⟨rfl, hb⟩
  have H1 := Lib.hid (And.intro (H0.out.1.below hb H0.out.1.lt) (And.intro (H0.out.2.1.below hb H0.out.2.1.lt) (H0.out.2.2.trans (hb.mono H0.out.2.2.size))))
  clear hb H0 S1
  have p0 : w2.cell? ⟨x, 0, none⟩ = some (.slice A n' ca) := H1.out.1.cell 0
  have p1 : w2.cell? ⟨x, 1, none⟩ = some (.slice V a' cv) := H1.out.1.cell 1
  have p2 : w2.cell? ⟨x, 2, none⟩ = some (.slice C b' cc) := H1.out.1.cell 2
  have p3 : w2.cell? ⟨x, 3, none⟩ = some (.slice R c' cr) := H1.out.1.cell 3
  have p4 : w2.cell? ⟨x, 4, none⟩ = some (.slice E m' ce) := H1.out.1.cell 4
  have p5 : w2.cell? ⟨x, 5, none⟩ = some (.int .i64 bud') := H1.out.1.cell 5
  have q0 : w2.cell? ⟨y, 0, none⟩ = some (.slice A' n' ca') := H1.out.2.1.cell 0
  have q1 : w2.cell? ⟨y, 1, none⟩ = some (.slice V' a' cv') := H1.out.2.1.cell 1
  have q2 : w2.cell? ⟨y, 2, none⟩ = some (.slice C' b' cc') := H1.out.2.1.cell 2
  have q3 : w2.cell? ⟨y, 3, none⟩ = some (.slice R' c' cr') := H1.out.2.1.cell 3
  have q4 : w2.cell? ⟨y, 4, none⟩ = some (.slice E' m' ce') := H1.out.2.1.cell 4
  have q5 : w2.cell? ⟨y, 5, none⟩ = some (.int .i64 bud') := H1.out.2.1.cell 5
  go_wp2_with fail
  clear p0 p1 p2 p3 p4 p5 q0 q1 q2 q3 q4 q5
  refine (S2.out _ H1.out.2.2).mono ?_
  rintro e w3 ⟨rfl, hb⟩
  have H2 := Lib.hid (And.intro (H1.out.1.below hb H1.out.1.lt) (And.intro (H1.out.2.1.below hb H1.out.2.1.lt) (H1.out.2.2.trans (hb.mono H1.out.2.2.size))))
  clear hb H1 S2
  have p0 : w3.cell? ⟨x, 0, none⟩ = some (.slice A n' ca) := H2.out.1.cell 0
  have p1 : w3.cell? ⟨x, 1, none⟩ = some (.slice V a' cv) := H2.out.1.cell 1
  have p2 : w3.cell? ⟨x, 2, none⟩ = some (.slice C b' cc) := H2.out.1.cell 2
  have p3 : w3.cell? ⟨x, 3, none⟩ = some (.slice R c' cr) := H2.out.1.cell 3
  have p4 : w3.cell? ⟨x, 4, none⟩ = some (.slice E m' ce) := H2.out.1.cell 4
  have p5 : w3.cell? ⟨x, 5, none⟩ = some (.int .i64 bud') := H2.out.1.cell 5
  have q0 : w3.cell? ⟨y, 0, none⟩ = some (.slice A' n' ca') := H2.out.2.1.cell 0
  have q1 : w3.cell? ⟨y, 1, none⟩ = some (.slice V' a' cv') := H2.out.2.1.cell 1
  have q2 : w3.cell? ⟨y, 2, none⟩ = some (.slice C' b' cc') := H2.out.2.1.cell 2
  have q3 : w3.cell? ⟨y, 3, none⟩ = some (.slice R' c' cr') := H2.out.2.1.cell 3
  have q4 : w3.cell? ⟨y, 4, none⟩ = some (.slice E' m' ce') := H2.out.2.1.cell 4
  have q5 : w3.cell? ⟨y, 5, none⟩ = some (.int .i64 bud') := H2.out.2.1.cell 5
  go_wp2_with fail
  clear p0 p1 p2 p3 p4 p5 q0 q1 q2 q3 q4 q5
  refine (S3.out _ H2.out.2.2).mono ?_
  rintro e w4 ⟨rfl, hb⟩
  have H3 := Lib.hid (And.intro (H2.out.1.below hb H2.out.1.lt) (And.intro (H2.out.2.1.below hb H2.out.2.1.lt) (H2.out.2.2.trans (hb.mono H2.out.2.2.size))))
  clear hb H2 S3
  have p0 : w4.cell? ⟨x, 0, none⟩ = some (.slice A n' ca) := H3.out.1.cell 0
  have p1 : w4.cell? ⟨x, 1, none⟩ = some (.slice V a' cv) := H3.out.1.cell 1
  have p2 : w4.cell? ⟨x, 2, none⟩ = some (.slice C b' cc) := H3.out.1.cell 2
  have p3 : w4.cell? ⟨x, 3, none⟩ = some (.slice R c' cr) := H3.out.1.cell 3
  have p4 : w4.cell? ⟨x, 4, none⟩ = some (.slice E m' ce) := H3.out.1.cell 4
  have p5 : w4.cell? ⟨x, 5, none⟩ = some (.int .i64 bud') := H3.out.1.cell 5
  have q0 : w4.cell? ⟨y, 0, none⟩ = some (.slice A' n' ca') := H3.out.2.1.cell 0
  have q1 : w4.cell? ⟨y, 1, none⟩ = some (.slice V' a' cv') := H3.out.2.1.cell 1
  have q2 : w4.cell? ⟨y, 2, none⟩ = some (.slice C' b' cc') := H3.out.2.1.cell 2
  have q3 : w4.cell? ⟨y, 3, none⟩ = some (.slice R' c' cr') := H3.out.2.1.cell 3
  have q4 : w4.cell? ⟨y, 4, none⟩ = some (.slice E' m' ce') := H3.out.2.1.cell 4
  have q5 : w4.cell? ⟨y, 5, none⟩ = some (.int .i64 bud') := H3.out.2.1.cell 5
  go_wp2_with fail
  clear p0 p1 p2 p3 p4 p5 q0 q1 q2 q3 q4 q5
  refine (S4.out _ H3.out.2.2).mono ?_
  rintro e w5 ⟨rfl, hb⟩
  have H4 := Lib.hid (And.intro (H3.out.1.below hb H3.out.1.lt) (And.intro (H3.out.2.1.below hb H3.out.2.1.lt) (H3.out.2.2.trans (hb.mono H3.out.2.2.size))))
  clear hb H3 S4
  go_wp2_with fail
  go_loopw [5] (fun i wr => ∃ k : Nat, k ≤ m' ∧ i = .int .i64 (k : Int) ∧ Blk wr x 27 #[.slice A n' ca, .slice V a' cv, .slice C b' cc, .slice R c' cr, .slice E m' ce, .int .i64 bud'] ∧ Blk wr y 27 #[.slice A' n' ca', .slice V' a' cv', .slice C' b' cc', .slice R' c' cr', .slice E' m' ce', .int .i64 bud'] ∧ Below w.heap.size w wr) (fun i _ => m' - (intOf i).toNat)
  case atStart => exact ⟨0, by omega, rfl, H4.out.1, H4.out.2.1, H4.out.2.2⟩
  case round =>
    obtain ⟨k, hk, rfl, hX, hY, hB⟩ := hrel
    clear H4
    have p4 : wr.cell? ⟨x, 4, none⟩ = some (.slice E m' ce) := hX.cell 4
    have q4 : wr.cell? ⟨y, 4, none⟩ = some (.slice E' m' ce') := hY.cell 4
    have HH := Lib.hid (And.intro hX (And.intro hY hB))
    by_cases hlt : k < m'
    · obtain ⟨d1, rfl, _, c0, c1, c2⟩ := ERow.cells (FRow.keep EE.out.1 hB) k hlt
      obtain ⟨d2, rfl, _, g0, g1, g2⟩ := ERow.cells (FRow.keep EE.out.2 hB) k hlt
      obtain ⟨ev, hev⟩ : ∃ v, es k = v := ⟨_, rfl⟩
      rw [hev] at c0 c1 c2 g0 g1 g2
      clear hX hY hB hev
      go_upto_region 6 with fail
      refine rg_begin (S := fun wS => wS.cell? ⟨x, 4, none⟩ = some (.slice (some d1) m' ce) ∧ wS.cell? ⟨y, 4, none⟩ = some (.slice (some d2) m' ce') ∧ wS.cell? (d1.add (k * 3)) = some (.int .i64 ev.a) ∧ wS.cell? ⟨(d1.add (k * 3)).block, (d1.add (k * 3)).off + 1, none⟩ = some (.int .u8 ev.b) ∧ wS.cell? ⟨(d1.add (k * 3)).block, (d1.add (k * 3)).off + 2, none⟩ = some (.bool ev.c) ∧ wS.cell? (d2.add (k * 3)) = some (.int .i64 ev.a) ∧ wS.cell? ⟨(d2.add (k * 3)).block, (d2.add (k * 3)).off + 1, none⟩ = some (.int .u8 ev.b) ∧ wS.cell? ⟨(d2.add (k * 3)).block, (d2.add (k * 3)).off + 2, none⟩ = some (.bool ev.c)) 11 #[false, false, false, false, false, false, false, false, false, false, false] (by kernel_rfl) (by kernel_rfl) (by kernel_rfl) ?_ (fun hHeld => ?_)
      · exact ⟨p4, q4, c0, c1, c2, g0, g1, g2⟩
      refine rg_take (i := 0) (d := some 65) (l := #[true, false, false, false, false, false, false, false, false, false, false]) (fuel := 10) (v := ?_) rfl (by kernel_rfl) (by kernel_rfl) (by kernel_rfl) (by kernel_rfl) (by kernel_rfl) (fun _ _ _ h => h) (by kernel_rfl) ?_ (by assumption) ?_
      rotate_left 1
      · (intro wS hSw; (try dsimp only at hSw); go_simp; try with_reducible rfl)
      try simp only [Act.put, List.setIfInBounds_toArray, List.set_cons_zero, List.set_cons_succ]
      refine rg_take (i := 1) (d := some 66) (l := #[true, true, false, false, false, false, false, false, false, false, false]) (fuel := 9) (v := ?_) rfl (by kernel_rfl) (by kernel_rfl) (by kernel_rfl) (by kernel_rfl) (by kernel_rfl) (fun _ _ _ h => h) (by kernel_rfl) ?_ (by assumption) ?_
      rotate_left 1
      · (intro wS hSw; (try dsimp only at hSw); go_simp; try with_reducible rfl)
      try simp only [Act.put, List.setIfInBounds_toArray, List.set_cons_zero, List.set_cons_succ]
      refine rg_take (i := 2) (d := some 67) (l := #[true, true, true, false, false, false, false, false, false, false, false]) (fuel := 8) (v := ?_) rfl (by kernel_rfl) (by kernel_rfl) (by kernel_rfl) (by kernel_rfl) (by kernel_rfl) (fun _ _ _ h => h) (by kernel_rfl) ?_ (by assumption) ?_
      rotate_left 1
      · (intro wS hSw; (try dsimp only at hSw); go_simp; try with_reducible rfl)
      try simp only [Act.put, List.setIfInBounds_toArray, List.set_cons_zero, List.set_cons_succ]
      refine rg_take (i := 3) (d := some 68) (l := #[true, true, true, true, false, false, false, false, false, false, false]) (fuel := 7) (v := ?_) rfl (by kernel_rfl) (by kernel_rfl) (by kernel_rfl) (by kernel_rfl) (by kernel_rfl) (fun _ _ _ h => h) (by kernel_rfl) ?_ (by assumption) ?_
      rotate_left 1
      · (intro wS hSw; (try dsimp only at hSw); go_simp; try with_reducible rfl)
      try simp only [Act.put, List.setIfInBounds_toArray, List.set_cons_zero, List.set_cons_succ]
      refine rg_take (i := 4) (d := some 69) (l := #[true, true, true, true, true, false, false, false, false, false, false]) (fuel := 6) (v := ?_) rfl (by kernel_rfl) (by kernel_rfl) (by kernel_rfl) (by kernel_rfl) (by kernel_rfl) (fun _ _ _ h => h) (by kernel_rfl) ?_ (by assumption) ?_
      rotate_left 1
      · (intro wS hSw; (try dsimp only at hSw); go_simp; try with_reducible rfl)
      try simp only [Act.put, List.setIfInBounds_toArray, List.set_cons_zero, List.set_cons_succ]
      refine rg_take (i := 5) (d := some 70) (l := #[true, true, true, true, true, true, false, false, false, false, false]) (fuel := 5) (v := ?_) rfl (by kernel_rfl) (by kernel_rfl) (by kernel_rfl) (by kernel_rfl) (by kernel_rfl) (fun _ _ _ h => h) (by kernel_rfl) ?_ (by assumption) ?_
      rotate_left 1
      · (intro wS hSw; (try dsimp only at hSw); go_simp; try with_reducible rfl)
      try simp only [Act.put, List.setIfInBounds_toArray, List.set_cons_zero, List.set_cons_succ]
      refine rg_take (i := 6) (d := some 71) (l := #[true, true, true, true, true, true, true, false, false, false, false]) (fuel := 4) (v := ?_) rfl (by kernel_rfl) (by kernel_rfl) (by kernel_rfl) (by kernel_rfl) (by kernel_rfl) (fun _ _ _ h => h) (by kernel_rfl) ?_ (by assumption) ?_
      rotate_left 1
      · (intro wS hSw; (try dsimp only at hSw); go_simp; try with_reducible rfl)
      try simp only [Act.put, List.setIfInBounds_toArray, List.set_cons_zero, List.set_cons_succ]
      refine rg_take (i := 7) (d := some 72) (l := #[true, true, true, true, true, true, true, true, false, false, false]) (fuel := 3) (v := ?_) rfl (by kernel_rfl) (by kernel_rfl) (by kernel_rfl) (by kernel_rfl) (by kernel_rfl) (fun _ _ _ h => h) (by kernel_rfl) ?_ (by assumption) ?_
      rotate_left 1
      · (intro wS hSw; (try dsimp only at hSw); go_simp; try with_reducible rfl)
      try simp only [Act.put, List.setIfInBounds_toArray, List.set_cons_zero, List.set_cons_succ]
      refine rg_take (i := 8) (d := some 73) (l := #[true, true, true, true, true, true, true, true, true, false, false]) (fuel := 2) (v := ?_) rfl (by kernel_rfl) (by kernel_rfl) (by kernel_rfl) (by kernel_rfl) (by kernel_rfl) (fun _ _ _ h => h) (by kernel_rfl) ?_ (by assumption) ?_
      rotate_left 1
      · (intro wS hSw; (try dsimp only at hSw); go_simp; try with_reducible rfl)
      try simp only [Act.put, List.setIfInBounds_toArray, List.set_cons_zero, List.set_cons_succ]
      refine rg_take (i := 9) (d := some 74) (l := #[true, true, true, true, true, true, true, true, true, true, false]) (fuel := 1) (v := ?_) rfl (by kernel_rfl) (by kernel_rfl) (by kernel_rfl) (by kernel_rfl) (by kernel_rfl) (fun _ _ _ h => h) (by kernel_rfl) ?_ (by assumption) ?_
      rotate_left 1
      · (intro wS hSw; (try dsimp only at hSw); go_simp; try with_reducible rfl)
      try simp only [Act.put, List.setIfInBounds_toArray, List.set_cons_zero, List.set_cons_succ]
      refine rg_take (i := 10) (d := some 75) (l := #[true, true, true, true, true, true, true, true, true, true, true]) (fuel := 0) (v := .bool false) rfl (by kernel_rfl) (by kernel_rfl) (by kernel_rfl) (by kernel_rfl) (by kernel_rfl) (fun _ _ _ h => h) (by kernel_rfl) ?_ (by assumption) ?_
      · (intro wS hSw; (try dsimp only at hSw); exact edge_ne ev.a ev.b ev.c rfl rfl rfl)
      try simp only [Act.put, List.setIfInBounds_toArray, List.set_cons_zero, List.set_cons_succ]
      refine wpAnyH_done (by kernel_rfl) ?_ _
      have HD : Hid (Blk (World.drew wr) x 27 #[.slice A n' ca, .slice V a' cv, .slice C b' cc, .slice R c' cr, .slice (some d1) m' ce, .int .i64 bud'] ∧ Blk (World.drew wr) y 27 #[.slice A' n' ca', .slice V' a' cv', .slice C' b' cc', .slice R' c' cr', .slice (some d2) m' ce', .int .i64 bud'] ∧ Below w.heap.size w (World.drew wr)) := Lib.hid ⟨HH.out.1.kp (Kp.refl [] _).drew (by simp), HH.out.2.1.kp (Kp.refl [] _).drew (by simp), below_drew_ HH.out.2.2⟩
      clear p4 q4 c0 c1 c2 g0 g1 g2
      go_wp2_with fail
      go_roundw
      case rel => exact ⟨k + 1, by omega, by go_num, HD.out.1, HD.out.2.1, HD.out.2.2⟩
      case measure => simp [intOf]; omega
    · obtain rfl : k = m' := by omega
      clear hX hY hB
      go_wp2_with fail
      go_ret
      exact ⟨rfl, HH.out.2.2⟩
end Go.Proofs.YtnhnphifhkkboaaDoor
namespace Go.Proofs.YtnhnphifhkkboaaDoor
open Go.RowKit Go.Shelf
set_option linter.unusedVariables false
set_option linter.unusedSimpArgs false
set_option maxRecDepth 100000
/-- A copy of bytes. -/
theorem szclone_any {w : World} {A : Option Addr} {n c N : Nat} {z : Nat → Int} (h : SlZ w A n c N z) (hn : n ≤ 140737488355328) :
    Calls Tryd.prog 43 #[.slice A n c] w fun e w' => ∃ A' c', e = .returned (.slice A' n c') ∧ SlZ w' A' n c' N z ∧ Below w.heap.size w w' := by
  refine (sclone_any A n c z h.2.2.2.2.2 hn h.2.2.2.1).mono ?_
  rintro e w' ⟨v, rfl, ⟨A', cap, rfl, h1, h2, h3, h4, h5, _⟩, hb⟩
  exact ⟨A', cap, rfl, ⟨h.1, h1, h2, h3, h4, h5⟩, hb⟩
def UnS (w : World) (x r : Nat) (cs : Array Value) (W : World) : Prop := Blk W x 27 cs ∧ Blk W r 27 sv0.cs ∧ Below w.heap.size w W
theorem UnS.below {w W W' : World} {x r : Nat} {cs : Array Value} (h : UnS w x r cs W) (b : Below W.heap.size W W') : UnS w x r cs W' := ⟨h.1.below b h.1.lt, h.2.1.below b h.2.1.lt, h.2.2.trans (b.mono h.2.2.size)⟩
theorem UnS.alloc {w W : World} {x r : Nat} {cs : Array Value} (h : UnS w x r cs W) (o : Obj) : UnS w x r cs (W.alloc o) := h.below ((Below.refl _ W).alloc (Nat.le_refl _) o)
theorem UnS.drew {w W : World} {x r : Nat} {cs : Array Value} (h : UnS w x r cs W) : UnS w x r cs W.drew := ⟨h.1.kp (Kp.refl [] _).drew (by simp), h.2.1.kp (Kp.refl [] _).drew (by simp), below_drew_ h.2.2⟩
theorem UnS.kp {w W W' : World} {x r : Nat} {cs : Array Value} {L : List Nat} (h : UnS w x r cs W) (k : Kp L W W') (hL : ∀ q ∈ L, w.heap.size ≤ q ∧ q ≠ x ∧ q ≠ r) : UnS w x r cs W' :=
  ⟨h.1.kp k (fun hx => (hL _ hx).2.1 rfl), h.2.1.kp k (fun hx => (hL _ hx).2.2 rfl), h.2.2.trans (k.below h.2.2.size (fun q hq => (hL q hq).1))⟩
/-- Four copies. -/
def Cl4 (P : Ps) (A1 : Option Addr) (n1 c1 : Nat) (A2 : Option Addr) (n2 c2 : Nat) (A3 : Option Addr) (n3 c3 : Nat) (A4 : Option Addr) (n4 c4 : Nat) (W : World) : Prop :=
  SlZ W A1 n1 c1 P.n P.z ∧ SlZ W A2 n2 c2 P.vdc.length (zL P.vdc) ∧ SlZ W A3 n3 c3 P.vce.length (zL P.vce) ∧ SlZ W A4 n4 c4 P.port.length (zL P.port)
theorem Cl4.kp {P : Ps} {A1 : Option Addr} {n1 c1 : Nat} {A2 : Option Addr} {n2 c2 : Nat} {A3 : Option Addr} {n3 c3 : Nat} {A4 : Option Addr} {n4 c4 : Nat} {W W' : World} {L : List Nat} (h : Cl4 P A1 n1 c1 A2 n2 c2 A3 n3 c3 A4 n4 c4 W) (k : Kp L W W') (hL : ∀ q ∈ L, ∃ T cs, Blk W q T cs ∧ T ≠ 5) : Cl4 P A1 n1 c1 A2 n2 c2 A3 n3 c3 A4 n4 c4 W' :=
  ⟨h.1.kp k hL, h.2.1.kp k hL, h.2.2.1.kp k hL, h.2.2.2.kp k hL⟩
/-- What is written, and its row of edges. -/
def UnE (B ob : Nat) (u1 u2 u3 u4 u5 : Value) (L : List Iib) (vE : Value) (W : World) : Prop :=
  Blk W ob 27 #[u1, u2, u3, u4, vE, u5] ∧ W.ownsRow B 31 3 vE L.length (L.flatMap edC)
theorem UnE.kp {B ob : Nat} {u1 u2 u3 u4 u5 : Value} {L : List Iib} {vE : Value} {W W' : World} (h : UnE B ob u1 u2 u3 u4 u5 L vE W) (k : Kp [] W W') : UnE B ob u1 u2 u3 u4 u5 L vE W' :=
  ⟨h.1.kp k (by simp), own_kp h.2 k (by simp)⟩
theorem UnE.add {B ob : Nat} {u1 u2 u3 u4 u5 : Value} {L : List Iib} {vE : Value} {W : World} (h : UnE B ob u1 u2 u3 u4 u5 L vE W) {p : Iib} (hB : B ≤ W.heap.size) (hn : L.length ≤ 100000000000) :
    ∃ b c w5, (Builtin.append_ #[25, 25] 25 #[vE, .slice (some ⟨W.heap.size, 0, none⟩) 1 1]).run Tryd.prog (W.alloc (.cells (edC p).toArray 31)) = .ok (.slice (some ⟨b, 0, none⟩) (L.length + 1) c) w5 ∧
      w5.cell? ⟨ob, 4, none⟩ = some vE ∧ w5.frozen? ⟨ob, 4, none⟩ = false ∧
      UnE B ob u1 u2 u3 u4 u5 (L ++ [p]) (.slice (some ⟨b, 0, none⟩) (L.length + 1) c) (w5.setCell ⟨ob, 4, none⟩ (.slice (some ⟨b, 0, none⟩) (L.length + 1) c)) ∧
      Kp (ob :: vE.ownBlock.toList) W (w5.setCell ⟨ob, 4, none⟩ (.slice (some ⟨b, 0, none⟩) (L.length + 1) c)) := by
  obtain ⟨v', w5, hrun, own, gb, hv⟩ := more_at (P := Tryd.prog) (t := 25) (e := 31) (ty := 25) (c := 1) (m := 1) Tryd.underlying25 scedge_inf rfl (by decide) h.2 (edC p).toArray rfl
    (fun x hx => by
      simp [edC] at hx
      rcases hx with rfl | rfl | rfl <;> rfl) rfl (by omega) (by omega) hB
  obtain ⟨b, c, rfl⟩ := ownsRow_succ own
  have gne : ∀ q, vE.ownBlock = some q → ob ≠ q := fun q hq e => by
    subst e
    obtain ⟨_, cc, hcc⟩ := own_has h.2 hq
    exact hcc.ne_ h.1 (by decide) rfl
  obtain ⟨hb6, k6⟩ := row_far (o := 4) (u := .slice (some ⟨b, 0, none⟩) (L.length + 1) c) (h.1.alloc _) gb gne
  have hb5 := (h.1.alloc (.cells (edC p).toArray 31)).grown gb (fun e => gne ob e.symm rfl)
  have k0 : Kp (ob :: vE.ownBlock.toList) W (w5.setCell ⟨ob, 4, none⟩ (.slice (some ⟨b, 0, none⟩) (L.length + 1) c)) := ((Kp.refl _ _).alloc _).trans k6 (fun x hx => Or.inl hx)
  have hbg : b ≠ ob := fun e => by
    subst e
    obtain ⟨_, cc, hcc⟩ := own_has own (q := b) rfl
    exact hcc.ne_ hb5 (by decide) rfl
  have own6 := own_kp own ((Kp.refl [ob] w5).setCell (p := ⟨ob, 4, none⟩) (Or.inl (by simp)) (.slice (some ⟨b, 0, none⟩) (L.length + 1) c)) (fun q hq hm => by
    injection hq with hq; subst hq; exact hbg (by simpa using hm))
  exact ⟨b, c, w5, hrun, hb5.cell 4, hb5.frozen 4, ⟨hb6, by simpa [List.flatMap_append] using own6⟩, k0⟩
/-- What is written there lies neither among bytes nor in what came in. -/
theorem UnE.offs {B ob : Nat} {u1 u2 u3 u4 u5 : Value} {L : List Iib} {vE : Value} {W : World} (h : UnE B ob u1 u2 u3 u4 u5 L vE W) (hob : B ≤ ob) : ∀ q ∈ ob :: vE.ownBlock.toList, B ≤ q ∧ (q = ob ∨ ∃ cs, Blk W q 31 cs) ∧ ∃ T cs, Blk W q T cs ∧ T ≠ 5 := fun q hq => by
  rcases List.mem_cons.1 hq with rfl | hq
  · exact ⟨hob, Or.inl rfl, _, _, h.1, by decide⟩
  · obtain ⟨h1, cs, h2⟩ := own_has h.2 (q := q) (by simpa using hq)
    exact ⟨h1, Or.inr ⟨cs, h2⟩, _, _, h2, by decide⟩
/-- Edges up to a stamp. -/
def unL (st : Int) (l : List Iib) : List Iib := l.filter fun e => decide (e.a ≤ st)
theorem unL_len (st : Int) (l : List Iib) : (unL st l).length ≤ l.length := List.length_filter_le _ _
theorem unL_next (st : Int) (l : List Iib) (k : Nat) (h : k < l.length) : unL st (l.take (k + 1)) = unL st (l.take k) ++ if (eL l k).a ≤ st then [eL l k] else [] := by
  have e : eL l k = l[k] := by simp [eL, List.getD, h]
  rw [e]
  unfold unL
  rw [List.take_add_one, List.getElem?_eq_getElem h, List.filter_append]
  by_cases hc : l[k].a ≤ st
  · simp [hc]
  · simp [hc]
end Go.Proofs.YtnhnphifhkkboaaDoor
namespace Go.Proofs.YtnhnphifhkkboaaDoor
open Go.RowKit Go.Shelf
set_option linter.unusedVariables false
set_option linter.unusedSimpArgs false
set_option maxRecDepth 100000
set_option maxHeartbeats 64000000 in
theorem scuntil_any {w : World} (s : Sv) (P : Ps) (h : ScrV w s P) (st : Int) (h1 : s.n ≤ 140737488355328) (h2 : s.a ≤ 140737488355328) (h3 : s.b ≤ 140737488355328) (h4 : s.c ≤ 140737488355328) (h5 : s.m ≤ 100000000000) :
    Calls Tryd.prog 12 #[.agg s.cs, .int .i64 st] w fun e w' => Below w.heap.size w w' ∧ ∃ s' : Sv, e = .returned (.agg s'.cs) ∧ ScrV w' s' { P with edges := unL st P.edges } := by
  obtain ⟨A, n, ca, V, a, cv, C, b, cc, R, c, cr, E, m, ce, bud⟩ := s
  dsimp only at *
  have K1 := Lib.hid (fun (W : World) (hb : Below w.heap.size w W) => szclone_any (h.rom.keep hb) h1)
  have K2 := Lib.hid (fun (W : World) (hb : Below w.heap.size w W) => szclone_any (h.vdc.keep hb) h2)
  have K3 := Lib.hid (fun (W : World) (hb : Below w.heap.size w W) => szclone_any (h.vce.keep hb) h3)
  have K4 := Lib.hid (fun (W : World) (hb : Below w.heap.size w W) => szclone_any (h.port.keep hb) h4)
  have ER : Hid (ERow w E m (eL P.edges)) := Lib.hid h.edges.2.2.2.1
  have HM : Hid (m = P.edges.length) := Lib.hid h.edges.1
  have HMB : Hid (P.edges.length ≤ 100000000000) := Lib.hid (by rw [← HM.out]; exact h5)
  have HBU : Hid (bud = P.bud) := Lib.hid h.bud
  have hmx : m ≤ 100000000000 := h5
  clear h h1 h2 h3 h4 h5
  unfold Sv.cs
  dsimp only
  go_enter Tryd.func12, Tryd.ntmps12
  go_upto_region 1 with fail
  have hX : Blk ((w.alloc (.cells #[.slice A n ca, .slice V a cv, .slice C b cc, .slice R c cr, .slice E m ce, .int .i64 bud] 27)).alloc (.cells #[.slice none 0 0, .slice none 0 0, .slice none 0 0, .slice none 0 0, .slice none 0 0, .int .i64 0] 27)) w.heap.size 27 #[.slice A n ca, .slice V a cv, .slice C b cc, .slice R c cr, .slice E m ce, .int .i64 bud] := (Blk.new w _ _).alloc _
  have hY : Blk ((w.alloc (.cells #[.slice A n ca, .slice V a cv, .slice C b cc, .slice R c cr, .slice E m ce, .int .i64 bud] 27)).alloc (.cells #[.slice none 0 0, .slice none 0 0, .slice none 0 0, .slice none 0 0, .slice none 0 0, .int .i64 0] 27)) (w.heap.size + 1) 27 sv0.cs := Blk.new_ (by simp)
  have hB : Below w.heap.size w ((w.alloc (.cells #[.slice A n ca, .slice V a cv, .slice C b cc, .slice R c cr, .slice E m ce, .int .i64 bud] 27)).alloc (.cells #[.slice none 0 0, .slice none 0 0, .slice none 0 0, .slice none 0 0, .slice none 0 0, .int .i64 0] 27)) := ((Below.refl _ w).alloc (Nat.le_refl _) _).alloc (by simp) _
  generalize World.alloc (World.alloc w _) _ = w0' at hX hY hB ⊢
  obtain ⟨x, hx⟩ : ∃ x, w.heap.size = x := ⟨_, rfl⟩
  obtain ⟨r, hy⟩ : ∃ y, x + 1 = y := ⟨_, rfl⟩
  rw [hx, hy] at hY
  rw [hx] at hX
  rw [hx, hy]
  have H0' : Hid (UnS w x r #[.slice A n ca, .slice V a cv, .slice C b cc, .slice R c cr, .slice E m ce, .int .i64 bud] w0') := Lib.hid ⟨hX, hY, hB⟩
  have HR : Hid (w.heap.size ≤ r) := Lib.hid (by omega)
  have CE : Hid (∀ W, UnS w x r #[.slice A n ca, .slice V a cv, .slice C b cc, .slice R c cr, .slice E m ce, .int .i64 bud] W → W.cell? ⟨x, 0, none⟩ = some (.slice A n ca) ∧ W.cell? ⟨x, 1, none⟩ = some (.slice V a cv) ∧ W.cell? ⟨x, 2, none⟩ = some (.slice C b cc) ∧ W.cell? ⟨x, 3, none⟩ = some (.slice R c cr) ∧ W.cell? ⟨x, 5, none⟩ = some (.int .i64 bud)) := Lib.hid (fun W h => ⟨h.1.cell 0, h.1.cell 1, h.1.cell 2, h.1.cell 3, h.1.cell 5⟩)
  clear hX hY hB hx hy
  refine rg_begin (S := fun W => W.cell? ⟨x, 0, none⟩ = some (.slice A n ca) ∧ W.cell? ⟨x, 1, none⟩ = some (.slice V a cv) ∧ W.cell? ⟨x, 2, none⟩ = some (.slice C b cc) ∧ W.cell? ⟨x, 3, none⟩ = some (.slice R c cr) ∧ W.cell? ⟨x, 5, none⟩ = some (.int .i64 bud)) 21 #[false, false, false, false, false, false, false, false, false, false, false, false, false, false, false, false, false, false, false, false, false] (by kernel_rfl) (by kernel_rfl) (by kernel_rfl) ?_ (fun hHeld => ?_)
  · exact CE.out _ H0'.out.drew
  have H0 := Lib.hid (H0'.out.drew)
  clear H0'
  generalize World.drew w0' = w0 at *
  refine rg_take (i := 0) (d := some 8) (l := #[true, false, false, false, false, false, false, false, false, false, false, false, false, false, false, false, false, false, false, false, false]) (fuel := 20) (v := ?_) rfl (by kernel_rfl) (by kernel_rfl) (by kernel_rfl) (by kernel_rfl) (by kernel_rfl) (fun _ _ _ h => h) (by kernel_rfl) ?_ (by assumption) ?_
  rotate_left 1
  · (intro wS hSw; (try dsimp only at hSw); go_simp; try with_reducible rfl)
  try simp only [Act.put, List.setIfInBounds_toArray, List.set_cons_zero, List.set_cons_succ]
  refine rg_take (i := 1) (d := some 9) (l := #[true, true, false, false, false, false, false, false, false, false, false, false, false, false, false, false, false, false, false, false, false]) (fuel := 19) (v := ?_) rfl (by kernel_rfl) (by kernel_rfl) (by kernel_rfl) (by kernel_rfl) (by kernel_rfl) (fun _ _ _ h => h) (by kernel_rfl) ?_ (by assumption) ?_
  rotate_left 1
  · (intro wS hSw; (try dsimp only at hSw); go_simp; try with_reducible rfl)
  try simp only [Act.put, List.setIfInBounds_toArray, List.set_cons_zero, List.set_cons_succ]
  refine rg_take (i := 3) (d := some 11) (l := #[true, true, false, true, false, false, false, false, false, false, false, false, false, false, false, false, false, false, false, false, false]) (fuel := 18) (v := ?_) rfl (by kernel_rfl) (by kernel_rfl) (by kernel_rfl) (by kernel_rfl) (by kernel_rfl) (fun _ _ _ h => h) (by kernel_rfl) ?_ (by assumption) ?_
  rotate_left 1
  · (intro wS hSw; (try dsimp only at hSw); go_simp; try with_reducible rfl)
  try simp only [Act.put, List.setIfInBounds_toArray, List.set_cons_zero, List.set_cons_succ]
  refine rg_take (i := 4) (d := some 12) (l := #[true, true, false, true, true, false, false, false, false, false, false, false, false, false, false, false, false, false, false, false, false]) (fuel := 17) (v := ?_) rfl (by kernel_rfl) (by kernel_rfl) (by kernel_rfl) (by kernel_rfl) (by kernel_rfl) (fun _ _ _ h => h) (by kernel_rfl) ?_ (by assumption) ?_
  rotate_left 1
  · (intro wS hSw; (try dsimp only at hSw); go_simp; try with_reducible rfl)
  try simp only [Act.put, List.setIfInBounds_toArray, List.set_cons_zero, List.set_cons_succ]
  refine rg_take (i := 5) (d := some 13) (l := #[true, true, false, true, true, true, false, false, false, false, false, false, false, false, false, false, false, false, false, false, false]) (fuel := 16) (v := ?_) rfl (by kernel_rfl) (by kernel_rfl) (by kernel_rfl) (by kernel_rfl) (by kernel_rfl) (fun _ _ _ h => h) (by kernel_rfl) ?_ (by assumption) ?_
  rotate_left 1
  · (intro wS hSw; (try dsimp only at hSw); go_simp; try with_reducible rfl)
  try simp only [Act.put, List.setIfInBounds_toArray, List.set_cons_zero, List.set_cons_succ]
  refine rg_take (i := 7) (d := some 15) (l := #[true, true, false, true, true, true, false, true, false, false, false, false, false, false, false, false, false, false, false, false, false]) (fuel := 15) (v := ?_) rfl (by kernel_rfl) (by kernel_rfl) (by kernel_rfl) (by kernel_rfl) (by kernel_rfl) (fun _ _ _ h => h) (by kernel_rfl) ?_ (by assumption) ?_
  rotate_left 1
  · (intro wS hSw; (try dsimp only at hSw); go_simp; try with_reducible rfl)
  try simp only [Act.put, List.setIfInBounds_toArray, List.set_cons_zero, List.set_cons_succ]
  refine rg_take (i := 8) (d := some 16) (l := #[true, true, false, true, true, true, false, true, true, false, false, false, false, false, false, false, false, false, false, false, false]) (fuel := 14) (v := ?_) rfl (by kernel_rfl) (by kernel_rfl) (by kernel_rfl) (by kernel_rfl) (by kernel_rfl) (fun _ _ _ h => h) (by kernel_rfl) ?_ (by assumption) ?_
  rotate_left 1
  · (intro wS hSw; (try dsimp only at hSw); go_simp; try with_reducible rfl)
  try simp only [Act.put, List.setIfInBounds_toArray, List.set_cons_zero, List.set_cons_succ]
  refine rg_take (i := 9) (d := some 17) (l := #[true, true, false, true, true, true, false, true, true, true, false, false, false, false, false, false, false, false, false, false, false]) (fuel := 13) (v := ?_) rfl (by kernel_rfl) (by kernel_rfl) (by kernel_rfl) (by kernel_rfl) (by kernel_rfl) (fun _ _ _ h => h) (by kernel_rfl) ?_ (by assumption) ?_
  rotate_left 1
  · (intro wS hSw; (try dsimp only at hSw); go_simp; try with_reducible rfl)
  try simp only [Act.put, List.setIfInBounds_toArray, List.set_cons_zero, List.set_cons_succ]
  refine rg_take (i := 11) (d := some 19) (l := #[true, true, false, true, true, true, false, true, true, true, false, true, false, false, false, false, false, false, false, false, false]) (fuel := 12) (v := ?_) rfl (by kernel_rfl) (by kernel_rfl) (by kernel_rfl) (by kernel_rfl) (by kernel_rfl) (fun _ _ _ h => h) (by kernel_rfl) ?_ (by assumption) ?_
  rotate_left 1
  · (intro wS hSw; (try dsimp only at hSw); go_simp; try with_reducible rfl)
  try simp only [Act.put, List.setIfInBounds_toArray, List.set_cons_zero, List.set_cons_succ]
  refine rg_take (i := 12) (d := some 20) (l := #[true, true, false, true, true, true, false, true, true, true, false, true, true, false, false, false, false, false, false, false, false]) (fuel := 11) (v := ?_) rfl (by kernel_rfl) (by kernel_rfl) (by kernel_rfl) (by kernel_rfl) (by kernel_rfl) (fun _ _ _ h => h) (by kernel_rfl) ?_ (by assumption) ?_
  rotate_left 1
  · (intro wS hSw; (try dsimp only at hSw); go_simp; try with_reducible rfl)
  try simp only [Act.put, List.setIfInBounds_toArray, List.set_cons_zero, List.set_cons_succ]
  refine rg_take (i := 13) (d := some 21) (l := #[true, true, false, true, true, true, false, true, true, true, false, true, true, true, false, false, false, false, false, false, false]) (fuel := 10) (v := ?_) rfl (by kernel_rfl) (by kernel_rfl) (by kernel_rfl) (by kernel_rfl) (by kernel_rfl) (fun _ _ _ h => h) (by kernel_rfl) ?_ (by assumption) ?_
  rotate_left 1
  · (intro wS hSw; (try dsimp only at hSw); go_simp; try with_reducible rfl)
  try simp only [Act.put, List.setIfInBounds_toArray, List.set_cons_zero, List.set_cons_succ]
  refine rg_take (i := 16) (d := some 24) (l := #[true, true, false, true, true, true, false, true, true, true, false, true, true, true, false, false, true, false, false, false, false]) (fuel := 9) (v := ?_) rfl (by kernel_rfl) (by kernel_rfl) (by kernel_rfl) (by kernel_rfl) (by kernel_rfl) (fun _ _ _ h => h) (by kernel_rfl) ?_ (by assumption) ?_
  rotate_left 1
  · (intro wS hSw; (try dsimp only at hSw); go_simp; try with_reducible rfl)
  try simp only [Act.put, List.setIfInBounds_toArray, List.set_cons_zero, List.set_cons_succ]
  refine rg_take (i := 17) (d := some 25) (l := #[true, true, false, true, true, true, false, true, true, true, false, true, true, true, false, false, true, true, false, false, false]) (fuel := 8) (v := ?_) rfl (by kernel_rfl) (by kernel_rfl) (by kernel_rfl) (by kernel_rfl) (by kernel_rfl) (fun _ _ _ h => h) (by kernel_rfl) ?_ (by assumption) ?_
  rotate_left 1
  · (intro wS hSw; (try dsimp only at hSw); go_simp; try with_reducible rfl)
  try simp only [Act.put, List.setIfInBounds_toArray, List.set_cons_zero, List.set_cons_succ]
  refine rg_of (rs := [2, 19]) (fuel := 7) (by kernel_rfl) rfl ?_
  refine rg_step (i := 2) (l := #[true, true, true, true, true, true, false, true, true, true, false, true, true, true, false, false, true, true, false, false, false]) rfl (by kernel_rfl) (by kernel_rfl) ?_ ?_
  · intro K hK
    go_simp
    refine (K1.out _ H0.out.2.2).mono ?_
    rintro e w1 ⟨A1, c1, rfl, hz, hb⟩
    have H1 := Lib.hid (H0.out.below hb)
    first | (refine hK.out _ _ ?_ (fun hHeld => ?_)) | (go_wp2_with fail; refine hK.out _ _ ?_ (fun hHeld => ?_))
    · (try dsimp only); exact CE.out _ H1.out
    clear hK K
    try simp only [Act.put, List.setIfInBounds_toArray, List.set_cons_zero, List.set_cons_succ]
    have Z1_1 := Lib.hid hz
    clear hz hb
    clear H0
    refine rg_of (rs := [6, 19]) (fuel := 6) (by kernel_rfl) rfl ?_
    refine rg_step (i := 6) (l := #[true, true, true, true, true, true, true, true, true, true, false, true, true, true, false, false, true, true, false, false, false]) rfl (by kernel_rfl) (by kernel_rfl) ?_ ?_
    · intro K hK
      go_simp
      refine (K2.out _ H1.out.2.2).mono ?_
      rintro e w2 ⟨A2, c2, rfl, hz, hb⟩
      have H2 := Lib.hid (H1.out.below hb)
      first | (refine hK.out _ _ ?_ (fun hHeld => ?_)) | (go_wp2_with fail; refine hK.out _ _ ?_ (fun hHeld => ?_))
      · (try dsimp only); exact CE.out _ H2.out
      clear hK K
      try simp only [Act.put, List.setIfInBounds_toArray, List.set_cons_zero, List.set_cons_succ]
      have Z2_2 := Lib.hid hz
      have Z1_2 := Lib.hid (Z1_1.out.keep hb)
      clear hz hb
      clear H1 Z1_1
      refine rg_of (rs := [10, 19]) (fuel := 5) (by kernel_rfl) rfl ?_
      refine rg_step (i := 10) (l := #[true, true, true, true, true, true, true, true, true, true, true, true, true, true, false, false, true, true, false, false, false]) rfl (by kernel_rfl) (by kernel_rfl) ?_ ?_
      · intro K hK
        go_simp
        refine (K3.out _ H2.out.2.2).mono ?_
        rintro e w3 ⟨A3, c3, rfl, hz, hb⟩
        have H3 := Lib.hid (H2.out.below hb)
        first | (refine hK.out _ _ ?_ (fun hHeld => ?_)) | (go_wp2_with fail; refine hK.out _ _ ?_ (fun hHeld => ?_))
        · (try dsimp only); exact CE.out _ H3.out
        clear hK K
        try simp only [Act.put, List.setIfInBounds_toArray, List.set_cons_zero, List.set_cons_succ]
        have Z3_3 := Lib.hid hz
        have Z1_3 := Lib.hid (Z1_2.out.keep hb)
        have Z2_3 := Lib.hid (Z2_2.out.keep hb)
        clear hz hb
        clear H2 Z1_2 Z2_2
        refine rg_of (rs := [14, 19]) (fuel := 4) (by kernel_rfl) rfl ?_
        refine rg_step (i := 14) (l := #[true, true, true, true, true, true, true, true, true, true, true, true, true, true, true, false, true, true, false, false, false]) rfl (by kernel_rfl) (by kernel_rfl) ?_ ?_
        · intro K hK
          go_simp
          refine (K4.out _ H3.out.2.2).mono ?_
          rintro e w4 ⟨A4, c4, rfl, hz, hb⟩
          have H4 := Lib.hid (H3.out.below hb)
          first | (refine hK.out _ _ ?_ (fun hHeld => ?_)) | (go_wp2_with fail; refine hK.out _ _ ?_ (fun hHeld => ?_))
          · (try dsimp only); exact CE.out _ H4.out
          clear hK K
          try simp only [Act.put, List.setIfInBounds_toArray, List.set_cons_zero, List.set_cons_succ]
          have Z4_4 := Lib.hid hz
          have Z1_4 := Lib.hid (Z1_3.out.keep hb)
          have Z2_4 := Lib.hid (Z2_3.out.keep hb)
          have Z3_4 := Lib.hid (Z3_3.out.keep hb)
          clear hz hb
          clear H3 Z1_3 Z2_3 Z3_3
          refine rg_take (i := 15) (d := some 23) (l := #[true, true, true, true, true, true, true, true, true, true, true, true, true, true, true, true, true, true, false, false, false]) (fuel := 3) (v := ?_) rfl (by kernel_rfl) (by kernel_rfl) (by kernel_rfl) (by kernel_rfl) (by kernel_rfl) (fun _ _ _ h => h) (by kernel_rfl) ?_ (by assumption) ?_
          rotate_left 1
          · (intro wS hSw; (try dsimp only at hSw); go_simp; try with_reducible rfl)
          try simp only [Act.put, List.setIfInBounds_toArray, List.set_cons_zero, List.set_cons_succ]
          refine rg_take (i := 18) (d := some 26) (l := #[true, true, true, true, true, true, true, true, true, true, true, true, true, true, true, true, true, true, true, false, false]) (fuel := 2) (v := ?_) rfl (by kernel_rfl) (by kernel_rfl) (by kernel_rfl) (by kernel_rfl) (by kernel_rfl) (fun _ _ _ h => h) (by kernel_rfl) ?_ (by assumption) ?_
          rotate_left 1
          · (intro wS hSw; (try dsimp only at hSw); go_simp; try with_reducible rfl)
          try simp only [Act.put, List.setIfInBounds_toArray, List.set_cons_zero, List.set_cons_succ]
          refine rg_next (i := 19) (l := #[true, true, true, true, true, true, true, true, true, true, true, true, true, true, true, true, true, true, true, true, false]) (fuel := 1) (by kernel_rfl) rfl (by kernel_rfl) (by kernel_rfl) (fun K hK => ?_)
          go_simp
          skip
          first | (refine hK.out _ _ ?_ (fun hHeld => ?_)) | (go_wp2_with fail; refine hK.out _ _ ?_ (fun hHeld => ?_))
          · (try dsimp only); exact CE.out _ (H4.out.alloc _)
          clear hK K
          try simp only [Act.put, List.setIfInBounds_toArray, List.set_cons_zero, List.set_cons_succ]
          generalize hwn : World.alloc w4 _ = w5
          have hwm : w4.alloc (.cells sv0.cs 27) = w5 := hwn
          have hb : Below w4.heap.size w4 w5 := hwm ▸ (Below.refl _ w4).alloc (Nat.le_refl _) (.cells sv0.cs 27)
          have X5' : Blk w5 w4.heap.size 27 sv0.cs := hwm ▸ Blk.new _ _ _
          have HO' : Hid (w.heap.size ≤ w4.heap.size ∧ w4.heap.size ≠ x ∧ w4.heap.size ≠ r) := Lib.hid ⟨H4.out.2.2.size, fun e => by have := H4.out.1.lt; omega, fun e => by have := H4.out.2.1.lt; omega⟩
          obtain ⟨ob, hob⟩ : ∃ q, w4.heap.size = q := ⟨_, rfl⟩
          rw [hob] at X5' HO'
          rw [hob]
          have HO := HO'
          have X5 := Lib.hid X5'
          have H5 := Lib.hid (H4.out.below hb)
          have Z1_5 := Lib.hid (Z1_4.out.keep hb)
          have Z2_5 := Lib.hid (Z2_4.out.keep hb)
          have Z3_5 := Lib.hid (Z3_4.out.keep hb)
          have Z4_5 := Lib.hid (Z4_4.out.keep hb)
          clear hwn hwm hb X5' HO' hob
          clear H4 Z1_4 Z2_4 Z3_4 Z4_4
          have a0 : w5.cell? ⟨ob, 0, none⟩ = some (.slice none 0 0) := X5.out.cell 0
          have b0 : w5.frozen? ⟨ob, 0, none⟩ = false := X5.out.frozen 0
          have a1 : w5.cell? ⟨ob, 1, none⟩ = some (.slice none 0 0) := X5.out.cell 1
          have b1 : w5.frozen? ⟨ob, 1, none⟩ = false := X5.out.frozen 1
          have a2 : w5.cell? ⟨ob, 2, none⟩ = some (.slice none 0 0) := X5.out.cell 2
          have b2 : w5.frozen? ⟨ob, 2, none⟩ = false := X5.out.frozen 2
          have a3 : w5.cell? ⟨ob, 3, none⟩ = some (.slice none 0 0) := X5.out.cell 3
          have b3 : w5.frozen? ⟨ob, 3, none⟩ = false := X5.out.frozen 3
          have a4 : w5.cell? ⟨ob, 4, none⟩ = some (.slice none 0 0) := X5.out.cell 4
          have b4 : w5.frozen? ⟨ob, 4, none⟩ = false := X5.out.frozen 4
          have a5 : w5.cell? ⟨ob, 5, none⟩ = some (.int .i64 0) := X5.out.cell 5
          have b5 : w5.frozen? ⟨ob, 5, none⟩ = false := X5.out.frozen 5
          have kk : Kp [ob] w5 ((((((w5.setCell ⟨ob, 0, none⟩ (.slice A1 n c1)).setCell ⟨ob, 1, none⟩ (.slice A2 a c2)).setCell ⟨ob, 2, none⟩ (.slice A3 b c3)).setCell ⟨ob, 3, none⟩ (.slice A4 c c4)).setCell ⟨ob, 4, none⟩ (.slice none 0 0)).setCell ⟨ob, 5, none⟩ (.int .i64 bud)) := (((((((Kp.refl [ob] w5).setCell (p := ⟨ob, 0, none⟩) (.inl (by simp)) _).setCell (p := ⟨ob, 1, none⟩) (.inl (by simp)) _).setCell (p := ⟨ob, 2, none⟩) (.inl (by simp)) _).setCell (p := ⟨ob, 3, none⟩) (.inl (by simp)) _).setCell (p := ⟨ob, 4, none⟩) (.inl (by simp)) _).setCell (p := ⟨ob, 5, none⟩) (.inl (by simp)) _)
          have HS := Lib.hid (H5.out.kp kk (fun q hq => by simp only [List.mem_singleton] at hq; subst hq; exact HO.out))
          have ZS := Lib.hid (Cl4.kp (P := P) ⟨Z1_5.out, Z2_5.out, Z3_5.out, Z4_5.out⟩ kk (fun q hq => by simp only [List.mem_singleton] at hq; subst hq; exact ⟨_, _, X5.out, by decide⟩))
          have ES : Hid (UnE w.heap.size ob (.slice A1 n c1) (.slice A2 a c2) (.slice A3 b c3) (.slice A4 c c4) (.int .i64 bud) [] (.slice none 0 0) ((((((w5.setCell ⟨ob, 0, none⟩ (.slice A1 n c1)).setCell ⟨ob, 1, none⟩ (.slice A2 a c2)).setCell ⟨ob, 2, none⟩ (.slice A3 b c3)).setCell ⟨ob, 3, none⟩ (.slice A4 c c4)).setCell ⟨ob, 4, none⟩ (.slice none 0 0)).setCell ⟨ob, 5, none⟩ (.int .i64 bud))) := Lib.hid ⟨(zero_six X5.out H5.out.2.2 HO.out.1 (.slice A1 n c1) (.slice A2 a c2) (.slice A3 b c3) (.slice A4 c c4) (.slice none 0 0) (.int .i64 bud)).2, World.ownsRow_nil _ _ _ _⟩
          clear kk
          refine rg_next (i := 20) (l := #[true, true, true, true, true, true, true, true, true, true, true, true, true, true, true, true, true, true, true, true, true]) (fuel := 0) (by kernel_rfl) rfl (by kernel_rfl) (by kernel_rfl) (fun K hK => ?_)
          go_simp
          skip
          first | (refine hK.out _ _ ?_ (fun hHeld => ?_)) | (go_wp2_with fail; refine hK.out _ _ ?_ (fun hHeld => ?_))
          · (try dsimp only); exact CE.out _ HS.out
          clear hK K
          try simp only [Act.put, List.setIfInBounds_toArray, List.set_cons_zero, List.set_cons_succ]
          obtain ⟨wf, hwf⟩ : ∃ q, ((((((w5.setCell ⟨ob, 0, none⟩ (.slice A1 n c1)).setCell ⟨ob, 1, none⟩ (.slice A2 a c2)).setCell ⟨ob, 2, none⟩ (.slice A3 b c3)).setCell ⟨ob, 3, none⟩ (.slice A4 c c4)).setCell ⟨ob, 4, none⟩ (.slice none 0 0)).setCell ⟨ob, 5, none⟩ (.int .i64 bud)) = q := ⟨_, rfl⟩
          rw [hwf] at HS ZS ES ⊢
          clear hwf a0 a1 a2 a3 a4 a5 b0 b1 b2 b3 b4 b5 X5
          clear H5 Z1_5 Z2_5 Z3_5 Z4_5
          refine wpAnyH_done (by kernel_rfl) ?_ _
          have s4 : wf.cell? ⟨x, 4, none⟩ = some (.slice E m ce) := HS.out.1.cell 4
          go_wp2_with fail
          go_loopw [30] (fun i wr => ∃ (k : Nat) (vE : Value), k ≤ m ∧ i = .int .i64 (k : Int) ∧ UnS w x r #[.slice A n ca, .slice V a cv, .slice C b cc, .slice R c cr, .slice E m ce, .int .i64 bud] wr ∧ Cl4 P A1 n c1 A2 a c2 A3 b c3 A4 c c4 wr ∧ UnE w.heap.size ob (.slice A1 n c1) (.slice A2 a c2) (.slice A3 b c3) (.slice A4 c c4) (.int .i64 bud) (unL st (P.edges.take k)) vE wr) (fun i _ => m - (intOf i).toNat)
          case atStart => exact ⟨0, .slice none 0 0, by omega, rfl, HS.out, ZS.out, ES.out⟩
          case round =>
            obtain ⟨k, vE, hk, rfl, hS, hZ, hE⟩ := hrel
            clear HS ZS ES s4
            have HS := Lib.hid hS
            have ZS := Lib.hid hZ
            have ES := Lib.hid hE
            clear hS hZ hE
            by_cases hlt : k < m
            · obtain ⟨d1, rfl, _, e0, e1, e2⟩ := ERow.cells (FRow.keep ER.out HS.out.2.2) k hlt
              have hnx := unL_next st P.edges k (by rw [← HM.out]; exact hlt)
              obtain ⟨ev, hev⟩ : ∃ v, eL P.edges k = v := ⟨_, rfl⟩
              rw [hev] at e0 e1 e2 hnx
              have HNX := Lib.hid hnx
              clear hev hnx
              have hbA : Below wr.heap.size wr (wr.alloc (.cells (edC ev).toArray 31)) := (Below.refl _ wr).alloc (Nat.le_refl _) _
              by_cases hle : ev.a ≤ st
              · have HA := Lib.hid (HS.out.below hbA)
                have ZA := Lib.hid (ZS.out.kp (L := []) (Kp.of_below hbA) (by simp))
                have EA := Lib.hid (ES.out.kp (Kp.of_below hbA))
                have hll : (unL st (P.edges.take k)).length ≤ 100000000000 := by
                  have h1 := unL_len st (P.edges.take k)
                  have h2 := List.length_take_le k P.edges
                  have h3 := HMB.out
                  omega
                obtain ⟨bE, cE, w5, hrun, cc4, zz4, hE5, k5⟩ := EA.out.add (p := ev) HA.out.2.2.size hll
                have hof := EA.out.offs HO.out.1
                have HS5 := Lib.hid (HA.out.kp k5 (fun q hq => by
                  obtain ⟨h1, h2, _⟩ := hof q hq
                  refine ⟨h1, ?_⟩
                  rcases h2 with rfl | ⟨cs, h2⟩
                  · exact HO.out.2
                  · exact ⟨fun e => h2.ne_ (e ▸ HA.out.1) (by decide) rfl, fun e => h2.ne_ (e ▸ HA.out.2.1) (by decide) rfl⟩))
                have ZS5 := Lib.hid (ZA.out.kp k5 (fun q hq => (hof q hq).2.2))
                have hlen : (unL st (P.edges.take k)).length + 1 = (unL st (P.edges.take (k + 1))).length := by rw [HNX.out, if_pos hle]; simp
                have hE6 : UnE w.heap.size ob (.slice A1 n c1) (.slice A2 a c2) (.slice A3 b c3) (.slice A4 c c4) (.int .i64 bud) (unL st (P.edges.take (k + 1))) (.slice (some ⟨bE, 0, none⟩) ((unL st (P.edges.take k)).length + 1) cE) (w5.setCell ⟨ob, 4, none⟩ (.slice (some ⟨bE, 0, none⟩) ((unL st (P.edges.take k)).length + 1) cE)) := by
                  rw [HNX.out, if_pos hle]; exact hE5
                have o4 : (wr.alloc (.cells #[.int .i64 ev.a, .int .u8 ev.b, .bool ev.c] 31)).cell? ⟨ob, 4, none⟩ = some vE := EA.out.1.cell 4
                obtain ⟨tn, htn⟩ : ∃ q, (unL st (P.edges.take k)).length + 1 = q := ⟨_, rfl⟩
                rw [htn] at hrun hE6 HS5 ZS5
                have ES6 := Lib.hid hE6
                have hsz : (wr.alloc (.cells (edC ev).toArray 31)).heap.size = wr.heap.size + 1 := by simp
                rw [hsz] at hrun
                have hrun2 : (Builtin.append_ #[25, 25] 25 #[vE, .slice (some ⟨wr.heap.size + 1, 0, none⟩) 1 1]).run Tryd.prog ((wr.alloc (.cells #[.int .i64 ev.a, .int .u8 ev.b, .bool ev.c] 31)).alloc (.cells #[.int .i64 ev.a, .int .u8 ev.b, .bool ev.c] 31)) = .ok (.slice (some ⟨bE, 0, none⟩) tn cE) w5 := hrun
                clear hrun hsz
                clear hbA hll k5 hof hlen hE5 hE6 htn HA ZA EA
                go_wp2_with (at_builtin; refine wpList_append_run rfl (.tmp 39) (.tmp 41) 25 rfl rfl rfl hrun2 ?_)
                go_roundw
                case rel => exact ⟨k + 1, _, by omega, by go_num, HS5.out, ZS5.out, ES6.out⟩
                case measure => simp [intOf]; omega
              · have HA := Lib.hid (HS.out.below hbA)
                have ZA := Lib.hid (ZS.out.kp (L := []) (Kp.of_below hbA) (by simp))
                have EA : Hid (UnE w.heap.size ob (.slice A1 n c1) (.slice A2 a c2) (.slice A3 b c3) (.slice A4 c c4) (.int .i64 bud) (unL st (P.edges.take (k + 1))) vE (wr.alloc (.cells (edC ev).toArray 31))) := Lib.hid (by rw [HNX.out, if_neg hle, List.append_nil]; exact ES.out.kp (Kp.of_below hbA))
                clear hbA HS ZS ES
                go_wp2_with fail
                go_roundw
                case rel => exact ⟨k + 1, vE, by omega, by go_num, HA.out, ZA.out, EA.out⟩
                case measure => simp [intOf]; omega
            · obtain rfl : k = m := by omega
              have hfull : P.edges.take k = P.edges := List.take_of_length_le (by rw [← HM.out]; exact Nat.le_refl _)
              rw [hfull] at ES
              obtain ⟨AE, kE, rfl, g1, g2, g3, g4, g5, g6⟩ := row_edges ES.out.2
              have hN := ES.out.1
              have kk : Kp [r] wr ((((((wr.setCell ⟨r, 0, none⟩ (.slice A1 n c1)).setCell ⟨r, 1, none⟩ (.slice A2 a c2)).setCell ⟨r, 2, none⟩ (.slice A3 b c3)).setCell ⟨r, 3, none⟩ (.slice A4 c c4)).setCell ⟨r, 4, none⟩ (.slice AE (unL st P.edges).length kE)).setCell ⟨r, 5, none⟩ (.int .i64 bud)) := (((((((Kp.refl [r] wr).setCell (p := ⟨r, 0, none⟩) (.inl (by simp)) _).setCell (p := ⟨r, 1, none⟩) (.inl (by simp)) _).setCell (p := ⟨r, 2, none⟩) (.inl (by simp)) _).setCell (p := ⟨r, 3, none⟩) (.inl (by simp)) _).setCell (p := ⟨r, 4, none⟩) (.inl (by simp)) _).setCell (p := ⟨r, 5, none⟩) (.inl (by simp)) _)
              have hof : ∀ q ∈ [r], ∃ T cs, Blk wr q T cs ∧ T ≠ 5 ∧ T ≠ 31 := fun q hq => by
                simp only [List.mem_singleton] at hq; subst hq; exact ⟨_, _, HS.out.2.1, by decide, by decide⟩
              have SV0 : ScrV wr ⟨A1, n, c1, A2, a, c2, A3, b, c3, A4, c, c4, AE, (unL st P.edges).length, kE, bud⟩ { P with edges := unL st P.edges } := ⟨ZS.out.1, ZS.out.2.1, ZS.out.2.2.1, ZS.out.2.2.2, ⟨rfl, g1, g2, g3, g4, g5⟩, HBU.out⟩
              have SVF := Lib.hid (SV0.kp kk hof)
              have hz := zero_six HS.out.2.1 HS.out.2.2 HR.out (.slice A1 n c1) (.slice A2 a c2) (.slice A3 b c3) (.slice A4 c c4) (.slice AE (unL st P.edges).length kE) (.int .i64 bud)
              obtain ⟨nE, hnE⟩ : ∃ q, (unL st P.edges).length = q := ⟨_, rfl⟩
              rw [hnE] at SVF hz hN
              have n_0 : wr.cell? ⟨ob, 0, none⟩ = some (.slice A1 n c1) := hN.cell 0
              have n_1 : wr.cell? ⟨ob, 1, none⟩ = some (.slice A2 a c2) := hN.cell 1
              have n_2 : wr.cell? ⟨ob, 2, none⟩ = some (.slice A3 b c3) := hN.cell 2
              have n_3 : wr.cell? ⟨ob, 3, none⟩ = some (.slice A4 c c4) := hN.cell 3
              have n_4 : wr.cell? ⟨ob, 4, none⟩ = some (.slice AE nE kE) := hN.cell 4
              have n_5 : wr.cell? ⟨ob, 5, none⟩ = some (.int .i64 bud) := hN.cell 5
              have d0 : wr.cell? ⟨r, 0, none⟩ = some (.slice none 0 0) := HS.out.2.1.cell 0
              have y0 : wr.frozen? ⟨r, 0, none⟩ = false := HS.out.2.1.frozen 0
              have d1 : wr.cell? ⟨r, 1, none⟩ = some (.slice none 0 0) := HS.out.2.1.cell 1
              have y1 : wr.frozen? ⟨r, 1, none⟩ = false := HS.out.2.1.frozen 1
              have d2 : wr.cell? ⟨r, 2, none⟩ = some (.slice none 0 0) := HS.out.2.1.cell 2
              have y2 : wr.frozen? ⟨r, 2, none⟩ = false := HS.out.2.1.frozen 2
              have d3 : wr.cell? ⟨r, 3, none⟩ = some (.slice none 0 0) := HS.out.2.1.cell 3
              have y3 : wr.frozen? ⟨r, 3, none⟩ = false := HS.out.2.1.frozen 3
              have d4 : wr.cell? ⟨r, 4, none⟩ = some (.slice none 0 0) := HS.out.2.1.cell 4
              have y4 : wr.frozen? ⟨r, 4, none⟩ = false := HS.out.2.1.frozen 4
              have d5 : wr.cell? ⟨r, 5, none⟩ = some (.int .i64 0) := HS.out.2.1.cell 5
              have y5 : wr.frozen? ⟨r, 5, none⟩ = false := HS.out.2.1.frozen 5
              have HZ := Lib.hid hz
              clear hz kk hof SV0 hN hnE g1 g2 g3 g4 g5 g6 hfull
              go_wp2_with fail
              (try simp (config := { zetaDelta := true }) only [Exit.inBlock, Exit.then])
              refine bodyPost_ret (results_cell (a := ⟨r, 0, none⟩) Tryd.results12 (by rfl) (HZ.out.2.run_load (P := Tryd.prog) Tryd.underlying27 rfl sizeS)) rfl ?_
              exact ⟨HZ.out.1, ⟨A1, n, c1, A2, a, c2, A3, b, c3, A4, c, c4, AE, nE, kE, bud⟩, rfl, SVF.out⟩
        refine rg_step (i := 19) (l := #[true, true, true, true, true, true, true, true, true, true, true, true, true, true, false, false, true, true, false, true, false]) rfl (by kernel_rfl) (by kernel_rfl) ?_ ?_
        · intro K hK
          go_simp
          skip
          first | (refine hK.out _ _ ?_ (fun hHeld => ?_)) | (go_wp2_with fail; refine hK.out _ _ ?_ (fun hHeld => ?_))
          · (try dsimp only); exact CE.out _ (H3.out.alloc _)
          clear hK K
          try simp only [Act.put, List.setIfInBounds_toArray, List.set_cons_zero, List.set_cons_succ]
          generalize hwn : World.alloc w3 _ = w4
          have hwm : w3.alloc (.cells sv0.cs 27) = w4 := hwn
          have hb : Below w3.heap.size w3 w4 := hwm ▸ (Below.refl _ w3).alloc (Nat.le_refl _) (.cells sv0.cs 27)
          have X4' : Blk w4 w3.heap.size 27 sv0.cs := hwm ▸ Blk.new _ _ _
          have HO' : Hid (w.heap.size ≤ w3.heap.size ∧ w3.heap.size ≠ x ∧ w3.heap.size ≠ r) := Lib.hid ⟨H3.out.2.2.size, fun e => by have := H3.out.1.lt; omega, fun e => by have := H3.out.2.1.lt; omega⟩
          obtain ⟨ob, hob⟩ : ∃ q, w3.heap.size = q := ⟨_, rfl⟩
          rw [hob] at X4' HO'
          rw [hob]
          have HO := HO'
          have X4 := Lib.hid X4'
          have H4 := Lib.hid (H3.out.below hb)
          have Z1_4 := Lib.hid (Z1_3.out.keep hb)
          have Z2_4 := Lib.hid (Z2_3.out.keep hb)
          have Z3_4 := Lib.hid (Z3_3.out.keep hb)
          clear hwn hwm hb X4' HO' hob
          clear H3 Z1_3 Z2_3 Z3_3
          refine rg_next (i := 14) (l := #[true, true, true, true, true, true, true, true, true, true, true, true, true, true, true, false, true, true, false, true, false]) (fuel := 3) (by kernel_rfl) rfl (by kernel_rfl) (by kernel_rfl) (fun K hK => ?_)
          go_simp
          refine (K4.out _ H4.out.2.2).mono ?_
          rintro e w5 ⟨A4, c4, rfl, hz, hb⟩
          have H5 := Lib.hid (H4.out.below hb)
          first | (refine hK.out _ _ ?_ (fun hHeld => ?_)) | (go_wp2_with fail; refine hK.out _ _ ?_ (fun hHeld => ?_))
          · (try dsimp only); exact CE.out _ H5.out
          clear hK K
          try simp only [Act.put, List.setIfInBounds_toArray, List.set_cons_zero, List.set_cons_succ]
          have Z4_5 := Lib.hid hz
          have Z1_5 := Lib.hid (Z1_4.out.keep hb)
          have Z2_5 := Lib.hid (Z2_4.out.keep hb)
          have Z3_5 := Lib.hid (Z3_4.out.keep hb)
          have X5 := Lib.hid (X4.out.below hb X4.out.lt)
          clear hz hb
          clear H4 Z1_4 Z2_4 Z3_4 X4
          refine rg_take (i := 15) (d := some 23) (l := #[true, true, true, true, true, true, true, true, true, true, true, true, true, true, true, true, true, true, false, true, false]) (fuel := 2) (v := ?_) rfl (by kernel_rfl) (by kernel_rfl) (by kernel_rfl) (by kernel_rfl) (by kernel_rfl) (fun _ _ _ h => h) (by kernel_rfl) ?_ (by assumption) ?_
          rotate_left 1
          · (intro wS hSw; (try dsimp only at hSw); go_simp; try with_reducible rfl)
          try simp only [Act.put, List.setIfInBounds_toArray, List.set_cons_zero, List.set_cons_succ]
          refine rg_take (i := 18) (d := some 26) (l := #[true, true, true, true, true, true, true, true, true, true, true, true, true, true, true, true, true, true, true, true, false]) (fuel := 1) (v := ?_) rfl (by kernel_rfl) (by kernel_rfl) (by kernel_rfl) (by kernel_rfl) (by kernel_rfl) (fun _ _ _ h => h) (by kernel_rfl) ?_ (by assumption) ?_
          rotate_left 1
          · (intro wS hSw; (try dsimp only at hSw); go_simp; try with_reducible rfl)
          try simp only [Act.put, List.setIfInBounds_toArray, List.set_cons_zero, List.set_cons_succ]
          have a0 : w5.cell? ⟨ob, 0, none⟩ = some (.slice none 0 0) := X5.out.cell 0
          have b0 : w5.frozen? ⟨ob, 0, none⟩ = false := X5.out.frozen 0
          have a1 : w5.cell? ⟨ob, 1, none⟩ = some (.slice none 0 0) := X5.out.cell 1
          have b1 : w5.frozen? ⟨ob, 1, none⟩ = false := X5.out.frozen 1
          have a2 : w5.cell? ⟨ob, 2, none⟩ = some (.slice none 0 0) := X5.out.cell 2
          have b2 : w5.frozen? ⟨ob, 2, none⟩ = false := X5.out.frozen 2
          have a3 : w5.cell? ⟨ob, 3, none⟩ = some (.slice none 0 0) := X5.out.cell 3
          have b3 : w5.frozen? ⟨ob, 3, none⟩ = false := X5.out.frozen 3
          have a4 : w5.cell? ⟨ob, 4, none⟩ = some (.slice none 0 0) := X5.out.cell 4
          have b4 : w5.frozen? ⟨ob, 4, none⟩ = false := X5.out.frozen 4
          have a5 : w5.cell? ⟨ob, 5, none⟩ = some (.int .i64 0) := X5.out.cell 5
          have b5 : w5.frozen? ⟨ob, 5, none⟩ = false := X5.out.frozen 5
          have kk : Kp [ob] w5 ((((((w5.setCell ⟨ob, 0, none⟩ (.slice A1 n c1)).setCell ⟨ob, 1, none⟩ (.slice A2 a c2)).setCell ⟨ob, 2, none⟩ (.slice A3 b c3)).setCell ⟨ob, 3, none⟩ (.slice A4 c c4)).setCell ⟨ob, 4, none⟩ (.slice none 0 0)).setCell ⟨ob, 5, none⟩ (.int .i64 bud)) := (((((((Kp.refl [ob] w5).setCell (p := ⟨ob, 0, none⟩) (.inl (by simp)) _).setCell (p := ⟨ob, 1, none⟩) (.inl (by simp)) _).setCell (p := ⟨ob, 2, none⟩) (.inl (by simp)) _).setCell (p := ⟨ob, 3, none⟩) (.inl (by simp)) _).setCell (p := ⟨ob, 4, none⟩) (.inl (by simp)) _).setCell (p := ⟨ob, 5, none⟩) (.inl (by simp)) _)
          have HS := Lib.hid (H5.out.kp kk (fun q hq => by simp only [List.mem_singleton] at hq; subst hq; exact HO.out))
          have ZS := Lib.hid (Cl4.kp (P := P) ⟨Z1_5.out, Z2_5.out, Z3_5.out, Z4_5.out⟩ kk (fun q hq => by simp only [List.mem_singleton] at hq; subst hq; exact ⟨_, _, X5.out, by decide⟩))
          have ES : Hid (UnE w.heap.size ob (.slice A1 n c1) (.slice A2 a c2) (.slice A3 b c3) (.slice A4 c c4) (.int .i64 bud) [] (.slice none 0 0) ((((((w5.setCell ⟨ob, 0, none⟩ (.slice A1 n c1)).setCell ⟨ob, 1, none⟩ (.slice A2 a c2)).setCell ⟨ob, 2, none⟩ (.slice A3 b c3)).setCell ⟨ob, 3, none⟩ (.slice A4 c c4)).setCell ⟨ob, 4, none⟩ (.slice none 0 0)).setCell ⟨ob, 5, none⟩ (.int .i64 bud))) := Lib.hid ⟨(zero_six X5.out H5.out.2.2 HO.out.1 (.slice A1 n c1) (.slice A2 a c2) (.slice A3 b c3) (.slice A4 c c4) (.slice none 0 0) (.int .i64 bud)).2, World.ownsRow_nil _ _ _ _⟩
          clear kk
          refine rg_next (i := 20) (l := #[true, true, true, true, true, true, true, true, true, true, true, true, true, true, true, true, true, true, true, true, true]) (fuel := 0) (by kernel_rfl) rfl (by kernel_rfl) (by kernel_rfl) (fun K hK => ?_)
          go_simp
          skip
          first | (refine hK.out _ _ ?_ (fun hHeld => ?_)) | (go_wp2_with fail; refine hK.out _ _ ?_ (fun hHeld => ?_))
          · (try dsimp only); exact CE.out _ HS.out
          clear hK K
          try simp only [Act.put, List.setIfInBounds_toArray, List.set_cons_zero, List.set_cons_succ]
          obtain ⟨wf, hwf⟩ : ∃ q, ((((((w5.setCell ⟨ob, 0, none⟩ (.slice A1 n c1)).setCell ⟨ob, 1, none⟩ (.slice A2 a c2)).setCell ⟨ob, 2, none⟩ (.slice A3 b c3)).setCell ⟨ob, 3, none⟩ (.slice A4 c c4)).setCell ⟨ob, 4, none⟩ (.slice none 0 0)).setCell ⟨ob, 5, none⟩ (.int .i64 bud)) = q := ⟨_, rfl⟩
          rw [hwf] at HS ZS ES ⊢
          clear hwf a0 a1 a2 a3 a4 a5 b0 b1 b2 b3 b4 b5 X5
          clear H5 Z1_5 Z2_5 Z3_5 Z4_5
          refine wpAnyH_done (by kernel_rfl) ?_ _
          have s4 : wf.cell? ⟨x, 4, none⟩ = some (.slice E m ce) := HS.out.1.cell 4
          go_wp2_with fail
          go_loopw [30] (fun i wr => ∃ (k : Nat) (vE : Value), k ≤ m ∧ i = .int .i64 (k : Int) ∧ UnS w x r #[.slice A n ca, .slice V a cv, .slice C b cc, .slice R c cr, .slice E m ce, .int .i64 bud] wr ∧ Cl4 P A1 n c1 A2 a c2 A3 b c3 A4 c c4 wr ∧ UnE w.heap.size ob (.slice A1 n c1) (.slice A2 a c2) (.slice A3 b c3) (.slice A4 c c4) (.int .i64 bud) (unL st (P.edges.take k)) vE wr) (fun i _ => m - (intOf i).toNat)
          case atStart => exact ⟨0, .slice none 0 0, by omega, rfl, HS.out, ZS.out, ES.out⟩
          case round =>
            obtain ⟨k, vE, hk, rfl, hS, hZ, hE⟩ := hrel
            clear HS ZS ES s4
            have HS := Lib.hid hS
            have ZS := Lib.hid hZ
            have ES := Lib.hid hE
            clear hS hZ hE
            by_cases hlt : k < m
            · obtain ⟨d1, rfl, _, e0, e1, e2⟩ := ERow.cells (FRow.keep ER.out HS.out.2.2) k hlt
              have hnx := unL_next st P.edges k (by rw [← HM.out]; exact hlt)
              obtain ⟨ev, hev⟩ : ∃ v, eL P.edges k = v := ⟨_, rfl⟩
              rw [hev] at e0 e1 e2 hnx
              have HNX := Lib.hid hnx
              clear hev hnx
              have hbA : Below wr.heap.size wr (wr.alloc (.cells (edC ev).toArray 31)) := (Below.refl _ wr).alloc (Nat.le_refl _) _
              by_cases hle : ev.a ≤ st
              · have HA := Lib.hid (HS.out.below hbA)
                have ZA := Lib.hid (ZS.out.kp (L := []) (Kp.of_below hbA) (by simp))
                have EA := Lib.hid (ES.out.kp (Kp.of_below hbA))
                have hll : (unL st (P.edges.take k)).length ≤ 100000000000 := by
                  have h1 := unL_len st (P.edges.take k)
                  have h2 := List.length_take_le k P.edges
                  have h3 := HMB.out
                  omega
                obtain ⟨bE, cE, w5, hrun, cc4, zz4, hE5, k5⟩ := EA.out.add (p := ev) HA.out.2.2.size hll
                have hof := EA.out.offs HO.out.1
                have HS5 := Lib.hid (HA.out.kp k5 (fun q hq => by
                  obtain ⟨h1, h2, _⟩ := hof q hq
                  refine ⟨h1, ?_⟩
                  rcases h2 with rfl | ⟨cs, h2⟩
                  · exact HO.out.2
                  · exact ⟨fun e => h2.ne_ (e ▸ HA.out.1) (by decide) rfl, fun e => h2.ne_ (e ▸ HA.out.2.1) (by decide) rfl⟩))
                have ZS5 := Lib.hid (ZA.out.kp k5 (fun q hq => (hof q hq).2.2))
                have hlen : (unL st (P.edges.take k)).length + 1 = (unL st (P.edges.take (k + 1))).length := by rw [HNX.out, if_pos hle]; simp
                have hE6 : UnE w.heap.size ob (.slice A1 n c1) (.slice A2 a c2) (.slice A3 b c3) (.slice A4 c c4) (.int .i64 bud) (unL st (P.edges.take (k + 1))) (.slice (some ⟨bE, 0, none⟩) ((unL st (P.edges.take k)).length + 1) cE) (w5.setCell ⟨ob, 4, none⟩ (.slice (some ⟨bE, 0, none⟩) ((unL st (P.edges.take k)).length + 1) cE)) := by
                  rw [HNX.out, if_pos hle]; exact hE5
                have o4 : (wr.alloc (.cells #[.int .i64 ev.a, .int .u8 ev.b, .bool ev.c] 31)).cell? ⟨ob, 4, none⟩ = some vE := EA.out.1.cell 4
                obtain ⟨tn, htn⟩ : ∃ q, (unL st (P.edges.take k)).length + 1 = q := ⟨_, rfl⟩
                rw [htn] at hrun hE6 HS5 ZS5
                have ES6 := Lib.hid hE6
                have hsz : (wr.alloc (.cells (edC ev).toArray 31)).heap.size = wr.heap.size + 1 := by simp
                rw [hsz] at hrun
                have hrun2 : (Builtin.append_ #[25, 25] 25 #[vE, .slice (some ⟨wr.heap.size + 1, 0, none⟩) 1 1]).run Tryd.prog ((wr.alloc (.cells #[.int .i64 ev.a, .int .u8 ev.b, .bool ev.c] 31)).alloc (.cells #[.int .i64 ev.a, .int .u8 ev.b, .bool ev.c] 31)) = .ok (.slice (some ⟨bE, 0, none⟩) tn cE) w5 := hrun
                clear hrun hsz
                clear hbA hll k5 hof hlen hE5 hE6 htn HA ZA EA
                go_wp2_with (at_builtin; refine wpList_append_run rfl (.tmp 39) (.tmp 41) 25 rfl rfl rfl hrun2 ?_)
                go_roundw
                case rel => exact ⟨k + 1, _, by omega, by go_num, HS5.out, ZS5.out, ES6.out⟩
                case measure => simp [intOf]; omega
              · have HA := Lib.hid (HS.out.below hbA)
                have ZA := Lib.hid (ZS.out.kp (L := []) (Kp.of_below hbA) (by simp))
                have EA : Hid (UnE w.heap.size ob (.slice A1 n c1) (.slice A2 a c2) (.slice A3 b c3) (.slice A4 c c4) (.int .i64 bud) (unL st (P.edges.take (k + 1))) vE (wr.alloc (.cells (edC ev).toArray 31))) := Lib.hid (by rw [HNX.out, if_neg hle, List.append_nil]; exact ES.out.kp (Kp.of_below hbA))
                clear hbA HS ZS ES
                go_wp2_with fail
                go_roundw
                case rel => exact ⟨k + 1, vE, by omega, by go_num, HA.out, ZA.out, EA.out⟩
                case measure => simp [intOf]; omega
            · obtain rfl : k = m := by omega
              have hfull : P.edges.take k = P.edges := List.take_of_length_le (by rw [← HM.out]; exact Nat.le_refl _)
              rw [hfull] at ES
              obtain ⟨AE, kE, rfl, g1, g2, g3, g4, g5, g6⟩ := row_edges ES.out.2
              have hN := ES.out.1
              have kk : Kp [r] wr ((((((wr.setCell ⟨r, 0, none⟩ (.slice A1 n c1)).setCell ⟨r, 1, none⟩ (.slice A2 a c2)).setCell ⟨r, 2, none⟩ (.slice A3 b c3)).setCell ⟨r, 3, none⟩ (.slice A4 c c4)).setCell ⟨r, 4, none⟩ (.slice AE (unL st P.edges).length kE)).setCell ⟨r, 5, none⟩ (.int .i64 bud)) := (((((((Kp.refl [r] wr).setCell (p := ⟨r, 0, none⟩) (.inl (by simp)) _).setCell (p := ⟨r, 1, none⟩) (.inl (by simp)) _).setCell (p := ⟨r, 2, none⟩) (.inl (by simp)) _).setCell (p := ⟨r, 3, none⟩) (.inl (by simp)) _).setCell (p := ⟨r, 4, none⟩) (.inl (by simp)) _).setCell (p := ⟨r, 5, none⟩) (.inl (by simp)) _)
              have hof : ∀ q ∈ [r], ∃ T cs, Blk wr q T cs ∧ T ≠ 5 ∧ T ≠ 31 := fun q hq => by
                simp only [List.mem_singleton] at hq; subst hq; exact ⟨_, _, HS.out.2.1, by decide, by decide⟩
              have SV0 : ScrV wr ⟨A1, n, c1, A2, a, c2, A3, b, c3, A4, c, c4, AE, (unL st P.edges).length, kE, bud⟩ { P with edges := unL st P.edges } := ⟨ZS.out.1, ZS.out.2.1, ZS.out.2.2.1, ZS.out.2.2.2, ⟨rfl, g1, g2, g3, g4, g5⟩, HBU.out⟩
              have SVF := Lib.hid (SV0.kp kk hof)
              have hz := zero_six HS.out.2.1 HS.out.2.2 HR.out (.slice A1 n c1) (.slice A2 a c2) (.slice A3 b c3) (.slice A4 c c4) (.slice AE (unL st P.edges).length kE) (.int .i64 bud)
              obtain ⟨nE, hnE⟩ : ∃ q, (unL st P.edges).length = q := ⟨_, rfl⟩
              rw [hnE] at SVF hz hN
              have n_0 : wr.cell? ⟨ob, 0, none⟩ = some (.slice A1 n c1) := hN.cell 0
              have n_1 : wr.cell? ⟨ob, 1, none⟩ = some (.slice A2 a c2) := hN.cell 1
              have n_2 : wr.cell? ⟨ob, 2, none⟩ = some (.slice A3 b c3) := hN.cell 2
              have n_3 : wr.cell? ⟨ob, 3, none⟩ = some (.slice A4 c c4) := hN.cell 3
              have n_4 : wr.cell? ⟨ob, 4, none⟩ = some (.slice AE nE kE) := hN.cell 4
              have n_5 : wr.cell? ⟨ob, 5, none⟩ = some (.int .i64 bud) := hN.cell 5
              have d0 : wr.cell? ⟨r, 0, none⟩ = some (.slice none 0 0) := HS.out.2.1.cell 0
              have y0 : wr.frozen? ⟨r, 0, none⟩ = false := HS.out.2.1.frozen 0
              have d1 : wr.cell? ⟨r, 1, none⟩ = some (.slice none 0 0) := HS.out.2.1.cell 1
              have y1 : wr.frozen? ⟨r, 1, none⟩ = false := HS.out.2.1.frozen 1
              have d2 : wr.cell? ⟨r, 2, none⟩ = some (.slice none 0 0) := HS.out.2.1.cell 2
              have y2 : wr.frozen? ⟨r, 2, none⟩ = false := HS.out.2.1.frozen 2
              have d3 : wr.cell? ⟨r, 3, none⟩ = some (.slice none 0 0) := HS.out.2.1.cell 3
              have y3 : wr.frozen? ⟨r, 3, none⟩ = false := HS.out.2.1.frozen 3
              have d4 : wr.cell? ⟨r, 4, none⟩ = some (.slice none 0 0) := HS.out.2.1.cell 4
              have y4 : wr.frozen? ⟨r, 4, none⟩ = false := HS.out.2.1.frozen 4
              have d5 : wr.cell? ⟨r, 5, none⟩ = some (.int .i64 0) := HS.out.2.1.cell 5
              have y5 : wr.frozen? ⟨r, 5, none⟩ = false := HS.out.2.1.frozen 5
              have HZ := Lib.hid hz
              clear hz kk hof SV0 hN hnE g1 g2 g3 g4 g5 g6 hfull
              go_wp2_with fail
              (try simp (config := { zetaDelta := true }) only [Exit.inBlock, Exit.then])
              refine bodyPost_ret (results_cell (a := ⟨r, 0, none⟩) Tryd.results12 (by rfl) (HZ.out.2.run_load (P := Tryd.prog) Tryd.underlying27 rfl sizeS)) rfl ?_
              exact ⟨HZ.out.1, ⟨A1, n, c1, A2, a, c2, A3, b, c3, A4, c, c4, AE, nE, kE, bud⟩, rfl, SVF.out⟩
        exact AllReadyH.nil
      refine rg_step (i := 19) (l := #[true, true, true, true, true, true, true, true, true, true, false, true, true, true, false, false, true, true, false, true, false]) rfl (by kernel_rfl) (by kernel_rfl) ?_ ?_
      · intro K hK
        go_simp
        skip
        first | (refine hK.out _ _ ?_ (fun hHeld => ?_)) | (go_wp2_with fail; refine hK.out _ _ ?_ (fun hHeld => ?_))
        · (try dsimp only); exact CE.out _ (H2.out.alloc _)
        clear hK K
        try simp only [Act.put, List.setIfInBounds_toArray, List.set_cons_zero, List.set_cons_succ]
        generalize hwn : World.alloc w2 _ = w3
        have hwm : w2.alloc (.cells sv0.cs 27) = w3 := hwn
        have hb : Below w2.heap.size w2 w3 := hwm ▸ (Below.refl _ w2).alloc (Nat.le_refl _) (.cells sv0.cs 27)
        have X3' : Blk w3 w2.heap.size 27 sv0.cs := hwm ▸ Blk.new _ _ _
        have HO' : Hid (w.heap.size ≤ w2.heap.size ∧ w2.heap.size ≠ x ∧ w2.heap.size ≠ r) := Lib.hid ⟨H2.out.2.2.size, fun e => by have := H2.out.1.lt; omega, fun e => by have := H2.out.2.1.lt; omega⟩
        obtain ⟨ob, hob⟩ : ∃ q, w2.heap.size = q := ⟨_, rfl⟩
        rw [hob] at X3' HO'
        rw [hob]
        have HO := HO'
        have X3 := Lib.hid X3'
        have H3 := Lib.hid (H2.out.below hb)
        have Z1_3 := Lib.hid (Z1_2.out.keep hb)
        have Z2_3 := Lib.hid (Z2_2.out.keep hb)
        clear hwn hwm hb X3' HO' hob
        clear H2 Z1_2 Z2_2
        refine rg_next (i := 10) (l := #[true, true, true, true, true, true, true, true, true, true, true, true, true, true, false, false, true, true, false, true, false]) (fuel := 4) (by kernel_rfl) rfl (by kernel_rfl) (by kernel_rfl) (fun K hK => ?_)
        go_simp
        refine (K3.out _ H3.out.2.2).mono ?_
        rintro e w4 ⟨A3, c3, rfl, hz, hb⟩
        have H4 := Lib.hid (H3.out.below hb)
        first | (refine hK.out _ _ ?_ (fun hHeld => ?_)) | (go_wp2_with fail; refine hK.out _ _ ?_ (fun hHeld => ?_))
        · (try dsimp only); exact CE.out _ H4.out
        clear hK K
        try simp only [Act.put, List.setIfInBounds_toArray, List.set_cons_zero, List.set_cons_succ]
        have Z3_4 := Lib.hid hz
        have Z1_4 := Lib.hid (Z1_3.out.keep hb)
        have Z2_4 := Lib.hid (Z2_3.out.keep hb)
        have X4 := Lib.hid (X3.out.below hb X3.out.lt)
        clear hz hb
        clear H3 Z1_3 Z2_3 X3
        refine rg_next (i := 14) (l := #[true, true, true, true, true, true, true, true, true, true, true, true, true, true, true, false, true, true, false, true, false]) (fuel := 3) (by kernel_rfl) rfl (by kernel_rfl) (by kernel_rfl) (fun K hK => ?_)
        go_simp
        refine (K4.out _ H4.out.2.2).mono ?_
        rintro e w5 ⟨A4, c4, rfl, hz, hb⟩
        have H5 := Lib.hid (H4.out.below hb)
        first | (refine hK.out _ _ ?_ (fun hHeld => ?_)) | (go_wp2_with fail; refine hK.out _ _ ?_ (fun hHeld => ?_))
        · (try dsimp only); exact CE.out _ H5.out
        clear hK K
        try simp only [Act.put, List.setIfInBounds_toArray, List.set_cons_zero, List.set_cons_succ]
        have Z4_5 := Lib.hid hz
        have Z1_5 := Lib.hid (Z1_4.out.keep hb)
        have Z2_5 := Lib.hid (Z2_4.out.keep hb)
        have Z3_5 := Lib.hid (Z3_4.out.keep hb)
        have X5 := Lib.hid (X4.out.below hb X4.out.lt)
        clear hz hb
        clear H4 Z1_4 Z2_4 Z3_4 X4
        refine rg_take (i := 15) (d := some 23) (l := #[true, true, true, true, true, true, true, true, true, true, true, true, true, true, true, true, true, true, false, true, false]) (fuel := 2) (v := ?_) rfl (by kernel_rfl) (by kernel_rfl) (by kernel_rfl) (by kernel_rfl) (by kernel_rfl) (fun _ _ _ h => h) (by kernel_rfl) ?_ (by assumption) ?_
        rotate_left 1
        · (intro wS hSw; (try dsimp only at hSw); go_simp; try with_reducible rfl)
        try simp only [Act.put, List.setIfInBounds_toArray, List.set_cons_zero, List.set_cons_succ]
        refine rg_take (i := 18) (d := some 26) (l := #[true, true, true, true, true, true, true, true, true, true, true, true, true, true, true, true, true, true, true, true, false]) (fuel := 1) (v := ?_) rfl (by kernel_rfl) (by kernel_rfl) (by kernel_rfl) (by kernel_rfl) (by kernel_rfl) (fun _ _ _ h => h) (by kernel_rfl) ?_ (by assumption) ?_
        rotate_left 1
        · (intro wS hSw; (try dsimp only at hSw); go_simp; try with_reducible rfl)
        try simp only [Act.put, List.setIfInBounds_toArray, List.set_cons_zero, List.set_cons_succ]
        have a0 : w5.cell? ⟨ob, 0, none⟩ = some (.slice none 0 0) := X5.out.cell 0
        have b0 : w5.frozen? ⟨ob, 0, none⟩ = false := X5.out.frozen 0
        have a1 : w5.cell? ⟨ob, 1, none⟩ = some (.slice none 0 0) := X5.out.cell 1
        have b1 : w5.frozen? ⟨ob, 1, none⟩ = false := X5.out.frozen 1
        have a2 : w5.cell? ⟨ob, 2, none⟩ = some (.slice none 0 0) := X5.out.cell 2
        have b2 : w5.frozen? ⟨ob, 2, none⟩ = false := X5.out.frozen 2
        have a3 : w5.cell? ⟨ob, 3, none⟩ = some (.slice none 0 0) := X5.out.cell 3
        have b3 : w5.frozen? ⟨ob, 3, none⟩ = false := X5.out.frozen 3
        have a4 : w5.cell? ⟨ob, 4, none⟩ = some (.slice none 0 0) := X5.out.cell 4
        have b4 : w5.frozen? ⟨ob, 4, none⟩ = false := X5.out.frozen 4
        have a5 : w5.cell? ⟨ob, 5, none⟩ = some (.int .i64 0) := X5.out.cell 5
        have b5 : w5.frozen? ⟨ob, 5, none⟩ = false := X5.out.frozen 5
        have kk : Kp [ob] w5 ((((((w5.setCell ⟨ob, 0, none⟩ (.slice A1 n c1)).setCell ⟨ob, 1, none⟩ (.slice A2 a c2)).setCell ⟨ob, 2, none⟩ (.slice A3 b c3)).setCell ⟨ob, 3, none⟩ (.slice A4 c c4)).setCell ⟨ob, 4, none⟩ (.slice none 0 0)).setCell ⟨ob, 5, none⟩ (.int .i64 bud)) := (((((((Kp.refl [ob] w5).setCell (p := ⟨ob, 0, none⟩) (.inl (by simp)) _).setCell (p := ⟨ob, 1, none⟩) (.inl (by simp)) _).setCell (p := ⟨ob, 2, none⟩) (.inl (by simp)) _).setCell (p := ⟨ob, 3, none⟩) (.inl (by simp)) _).setCell (p := ⟨ob, 4, none⟩) (.inl (by simp)) _).setCell (p := ⟨ob, 5, none⟩) (.inl (by simp)) _)
        have HS := Lib.hid (H5.out.kp kk (fun q hq => by simp only [List.mem_singleton] at hq; subst hq; exact HO.out))
        have ZS := Lib.hid (Cl4.kp (P := P) ⟨Z1_5.out, Z2_5.out, Z3_5.out, Z4_5.out⟩ kk (fun q hq => by simp only [List.mem_singleton] at hq; subst hq; exact ⟨_, _, X5.out, by decide⟩))
        have ES : Hid (UnE w.heap.size ob (.slice A1 n c1) (.slice A2 a c2) (.slice A3 b c3) (.slice A4 c c4) (.int .i64 bud) [] (.slice none 0 0) ((((((w5.setCell ⟨ob, 0, none⟩ (.slice A1 n c1)).setCell ⟨ob, 1, none⟩ (.slice A2 a c2)).setCell ⟨ob, 2, none⟩ (.slice A3 b c3)).setCell ⟨ob, 3, none⟩ (.slice A4 c c4)).setCell ⟨ob, 4, none⟩ (.slice none 0 0)).setCell ⟨ob, 5, none⟩ (.int .i64 bud))) := Lib.hid ⟨(zero_six X5.out H5.out.2.2 HO.out.1 (.slice A1 n c1) (.slice A2 a c2) (.slice A3 b c3) (.slice A4 c c4) (.slice none 0 0) (.int .i64 bud)).2, World.ownsRow_nil _ _ _ _⟩
        clear kk
        refine rg_next (i := 20) (l := #[true, true, true, true, true, true, true, true, true, true, true, true, true, true, true, true, true, true, true, true, true]) (fuel := 0) (by kernel_rfl) rfl (by kernel_rfl) (by kernel_rfl) (fun K hK => ?_)
        go_simp
        skip
        first | (refine hK.out _ _ ?_ (fun hHeld => ?_)) | (go_wp2_with fail; refine hK.out _ _ ?_ (fun hHeld => ?_))
        · (try dsimp only); exact CE.out _ HS.out
        clear hK K
        try simp only [Act.put, List.setIfInBounds_toArray, List.set_cons_zero, List.set_cons_succ]
        obtain ⟨wf, hwf⟩ : ∃ q, ((((((w5.setCell ⟨ob, 0, none⟩ (.slice A1 n c1)).setCell ⟨ob, 1, none⟩ (.slice A2 a c2)).setCell ⟨ob, 2, none⟩ (.slice A3 b c3)).setCell ⟨ob, 3, none⟩ (.slice A4 c c4)).setCell ⟨ob, 4, none⟩ (.slice none 0 0)).setCell ⟨ob, 5, none⟩ (.int .i64 bud)) = q := ⟨_, rfl⟩
        rw [hwf] at HS ZS ES ⊢
        clear hwf a0 a1 a2 a3 a4 a5 b0 b1 b2 b3 b4 b5 X5
        clear H5 Z1_5 Z2_5 Z3_5 Z4_5
        refine wpAnyH_done (by kernel_rfl) ?_ _
        have s4 : wf.cell? ⟨x, 4, none⟩ = some (.slice E m ce) := HS.out.1.cell 4
        go_wp2_with fail
        go_loopw [30] (fun i wr => ∃ (k : Nat) (vE : Value), k ≤ m ∧ i = .int .i64 (k : Int) ∧ UnS w x r #[.slice A n ca, .slice V a cv, .slice C b cc, .slice R c cr, .slice E m ce, .int .i64 bud] wr ∧ Cl4 P A1 n c1 A2 a c2 A3 b c3 A4 c c4 wr ∧ UnE w.heap.size ob (.slice A1 n c1) (.slice A2 a c2) (.slice A3 b c3) (.slice A4 c c4) (.int .i64 bud) (unL st (P.edges.take k)) vE wr) (fun i _ => m - (intOf i).toNat)
        case atStart => exact ⟨0, .slice none 0 0, by omega, rfl, HS.out, ZS.out, ES.out⟩
        case round =>
          obtain ⟨k, vE, hk, rfl, hS, hZ, hE⟩ := hrel
          clear HS ZS ES s4
          have HS := Lib.hid hS
          have ZS := Lib.hid hZ
          have ES := Lib.hid hE
          clear hS hZ hE
          by_cases hlt : k < m
          · obtain ⟨d1, rfl, _, e0, e1, e2⟩ := ERow.cells (FRow.keep ER.out HS.out.2.2) k hlt
            have hnx := unL_next st P.edges k (by rw [← HM.out]; exact hlt)
            obtain ⟨ev, hev⟩ : ∃ v, eL P.edges k = v := ⟨_, rfl⟩
            rw [hev] at e0 e1 e2 hnx
            have HNX := Lib.hid hnx
            clear hev hnx
            have hbA : Below wr.heap.size wr (wr.alloc (.cells (edC ev).toArray 31)) := (Below.refl _ wr).alloc (Nat.le_refl _) _
            by_cases hle : ev.a ≤ st
            · have HA := Lib.hid (HS.out.below hbA)
              have ZA := Lib.hid (ZS.out.kp (L := []) (Kp.of_below hbA) (by simp))
              have EA := Lib.hid (ES.out.kp (Kp.of_below hbA))
              have hll : (unL st (P.edges.take k)).length ≤ 100000000000 := by
                have h1 := unL_len st (P.edges.take k)
                have h2 := List.length_take_le k P.edges
                have h3 := HMB.out
                omega
              obtain ⟨bE, cE, w5, hrun, cc4, zz4, hE5, k5⟩ := EA.out.add (p := ev) HA.out.2.2.size hll
              have hof := EA.out.offs HO.out.1
              have HS5 := Lib.hid (HA.out.kp k5 (fun q hq => by
                obtain ⟨h1, h2, _⟩ := hof q hq
                refine ⟨h1, ?_⟩
                rcases h2 with rfl | ⟨cs, h2⟩
                · exact HO.out.2
                · exact ⟨fun e => h2.ne_ (e ▸ HA.out.1) (by decide) rfl, fun e => h2.ne_ (e ▸ HA.out.2.1) (by decide) rfl⟩))
              have ZS5 := Lib.hid (ZA.out.kp k5 (fun q hq => (hof q hq).2.2))
              have hlen : (unL st (P.edges.take k)).length + 1 = (unL st (P.edges.take (k + 1))).length := by rw [HNX.out, if_pos hle]; simp
              have hE6 : UnE w.heap.size ob (.slice A1 n c1) (.slice A2 a c2) (.slice A3 b c3) (.slice A4 c c4) (.int .i64 bud) (unL st (P.edges.take (k + 1))) (.slice (some ⟨bE, 0, none⟩) ((unL st (P.edges.take k)).length + 1) cE) (w5.setCell ⟨ob, 4, none⟩ (.slice (some ⟨bE, 0, none⟩) ((unL st (P.edges.take k)).length + 1) cE)) := by
                rw [HNX.out, if_pos hle]; exact hE5
              have o4 : (wr.alloc (.cells #[.int .i64 ev.a, .int .u8 ev.b, .bool ev.c] 31)).cell? ⟨ob, 4, none⟩ = some vE := EA.out.1.cell 4
              obtain ⟨tn, htn⟩ : ∃ q, (unL st (P.edges.take k)).length + 1 = q := ⟨_, rfl⟩
              rw [htn] at hrun hE6 HS5 ZS5
              have ES6 := Lib.hid hE6
              have hsz : (wr.alloc (.cells (edC ev).toArray 31)).heap.size = wr.heap.size + 1 := by simp
              rw [hsz] at hrun
              have hrun2 : (Builtin.append_ #[25, 25] 25 #[vE, .slice (some ⟨wr.heap.size + 1, 0, none⟩) 1 1]).run Tryd.prog ((wr.alloc (.cells #[.int .i64 ev.a, .int .u8 ev.b, .bool ev.c] 31)).alloc (.cells #[.int .i64 ev.a, .int .u8 ev.b, .bool ev.c] 31)) = .ok (.slice (some ⟨bE, 0, none⟩) tn cE) w5 := hrun
              clear hrun hsz
              clear hbA hll k5 hof hlen hE5 hE6 htn HA ZA EA
              go_wp2_with (at_builtin; refine wpList_append_run rfl (.tmp 39) (.tmp 41) 25 rfl rfl rfl hrun2 ?_)
              go_roundw
              case rel => exact ⟨k + 1, _, by omega, by go_num, HS5.out, ZS5.out, ES6.out⟩
              case measure => simp [intOf]; omega
            · have HA := Lib.hid (HS.out.below hbA)
              have ZA := Lib.hid (ZS.out.kp (L := []) (Kp.of_below hbA) (by simp))
              have EA : Hid (UnE w.heap.size ob (.slice A1 n c1) (.slice A2 a c2) (.slice A3 b c3) (.slice A4 c c4) (.int .i64 bud) (unL st (P.edges.take (k + 1))) vE (wr.alloc (.cells (edC ev).toArray 31))) := Lib.hid (by rw [HNX.out, if_neg hle, List.append_nil]; exact ES.out.kp (Kp.of_below hbA))
              clear hbA HS ZS ES
              go_wp2_with fail
              go_roundw
              case rel => exact ⟨k + 1, vE, by omega, by go_num, HA.out, ZA.out, EA.out⟩
              case measure => simp [intOf]; omega
          · obtain rfl : k = m := by omega
            have hfull : P.edges.take k = P.edges := List.take_of_length_le (by rw [← HM.out]; exact Nat.le_refl _)
            rw [hfull] at ES
            obtain ⟨AE, kE, rfl, g1, g2, g3, g4, g5, g6⟩ := row_edges ES.out.2
            have hN := ES.out.1
            have kk : Kp [r] wr ((((((wr.setCell ⟨r, 0, none⟩ (.slice A1 n c1)).setCell ⟨r, 1, none⟩ (.slice A2 a c2)).setCell ⟨r, 2, none⟩ (.slice A3 b c3)).setCell ⟨r, 3, none⟩ (.slice A4 c c4)).setCell ⟨r, 4, none⟩ (.slice AE (unL st P.edges).length kE)).setCell ⟨r, 5, none⟩ (.int .i64 bud)) := (((((((Kp.refl [r] wr).setCell (p := ⟨r, 0, none⟩) (.inl (by simp)) _).setCell (p := ⟨r, 1, none⟩) (.inl (by simp)) _).setCell (p := ⟨r, 2, none⟩) (.inl (by simp)) _).setCell (p := ⟨r, 3, none⟩) (.inl (by simp)) _).setCell (p := ⟨r, 4, none⟩) (.inl (by simp)) _).setCell (p := ⟨r, 5, none⟩) (.inl (by simp)) _)
            have hof : ∀ q ∈ [r], ∃ T cs, Blk wr q T cs ∧ T ≠ 5 ∧ T ≠ 31 := fun q hq => by
              simp only [List.mem_singleton] at hq; subst hq; exact ⟨_, _, HS.out.2.1, by decide, by decide⟩
            have SV0 : ScrV wr ⟨A1, n, c1, A2, a, c2, A3, b, c3, A4, c, c4, AE, (unL st P.edges).length, kE, bud⟩ { P with edges := unL st P.edges } := ⟨ZS.out.1, ZS.out.2.1, ZS.out.2.2.1, ZS.out.2.2.2, ⟨rfl, g1, g2, g3, g4, g5⟩, HBU.out⟩
            have SVF := Lib.hid (SV0.kp kk hof)
            have hz := zero_six HS.out.2.1 HS.out.2.2 HR.out (.slice A1 n c1) (.slice A2 a c2) (.slice A3 b c3) (.slice A4 c c4) (.slice AE (unL st P.edges).length kE) (.int .i64 bud)
            obtain ⟨nE, hnE⟩ : ∃ q, (unL st P.edges).length = q := ⟨_, rfl⟩
            rw [hnE] at SVF hz hN
            have n_0 : wr.cell? ⟨ob, 0, none⟩ = some (.slice A1 n c1) := hN.cell 0
            have n_1 : wr.cell? ⟨ob, 1, none⟩ = some (.slice A2 a c2) := hN.cell 1
            have n_2 : wr.cell? ⟨ob, 2, none⟩ = some (.slice A3 b c3) := hN.cell 2
            have n_3 : wr.cell? ⟨ob, 3, none⟩ = some (.slice A4 c c4) := hN.cell 3
            have n_4 : wr.cell? ⟨ob, 4, none⟩ = some (.slice AE nE kE) := hN.cell 4
            have n_5 : wr.cell? ⟨ob, 5, none⟩ = some (.int .i64 bud) := hN.cell 5
            have d0 : wr.cell? ⟨r, 0, none⟩ = some (.slice none 0 0) := HS.out.2.1.cell 0
            have y0 : wr.frozen? ⟨r, 0, none⟩ = false := HS.out.2.1.frozen 0
            have d1 : wr.cell? ⟨r, 1, none⟩ = some (.slice none 0 0) := HS.out.2.1.cell 1
            have y1 : wr.frozen? ⟨r, 1, none⟩ = false := HS.out.2.1.frozen 1
            have d2 : wr.cell? ⟨r, 2, none⟩ = some (.slice none 0 0) := HS.out.2.1.cell 2
            have y2 : wr.frozen? ⟨r, 2, none⟩ = false := HS.out.2.1.frozen 2
            have d3 : wr.cell? ⟨r, 3, none⟩ = some (.slice none 0 0) := HS.out.2.1.cell 3
            have y3 : wr.frozen? ⟨r, 3, none⟩ = false := HS.out.2.1.frozen 3
            have d4 : wr.cell? ⟨r, 4, none⟩ = some (.slice none 0 0) := HS.out.2.1.cell 4
            have y4 : wr.frozen? ⟨r, 4, none⟩ = false := HS.out.2.1.frozen 4
            have d5 : wr.cell? ⟨r, 5, none⟩ = some (.int .i64 0) := HS.out.2.1.cell 5
            have y5 : wr.frozen? ⟨r, 5, none⟩ = false := HS.out.2.1.frozen 5
            have HZ := Lib.hid hz
            clear hz kk hof SV0 hN hnE g1 g2 g3 g4 g5 g6 hfull
            go_wp2_with fail
            (try simp (config := { zetaDelta := true }) only [Exit.inBlock, Exit.then])
            refine bodyPost_ret (results_cell (a := ⟨r, 0, none⟩) Tryd.results12 (by rfl) (HZ.out.2.run_load (P := Tryd.prog) Tryd.underlying27 rfl sizeS)) rfl ?_
            exact ⟨HZ.out.1, ⟨A1, n, c1, A2, a, c2, A3, b, c3, A4, c, c4, AE, nE, kE, bud⟩, rfl, SVF.out⟩
      exact AllReadyH.nil
    refine rg_step (i := 19) (l := #[true, true, true, true, true, true, false, true, true, true, false, true, true, true, false, false, true, true, false, true, false]) rfl (by kernel_rfl) (by kernel_rfl) ?_ ?_
    · intro K hK
      go_simp
      skip
      first | (refine hK.out _ _ ?_ (fun hHeld => ?_)) | (go_wp2_with fail; refine hK.out _ _ ?_ (fun hHeld => ?_))
      · (try dsimp only); exact CE.out _ (H1.out.alloc _)
      clear hK K
      try simp only [Act.put, List.setIfInBounds_toArray, List.set_cons_zero, List.set_cons_succ]
      generalize hwn : World.alloc w1 _ = w2
      have hwm : w1.alloc (.cells sv0.cs 27) = w2 := hwn
      have hb : Below w1.heap.size w1 w2 := hwm ▸ (Below.refl _ w1).alloc (Nat.le_refl _) (.cells sv0.cs 27)
      have X2' : Blk w2 w1.heap.size 27 sv0.cs := hwm ▸ Blk.new _ _ _
      have HO' : Hid (w.heap.size ≤ w1.heap.size ∧ w1.heap.size ≠ x ∧ w1.heap.size ≠ r) := Lib.hid ⟨H1.out.2.2.size, fun e => by have := H1.out.1.lt; omega, fun e => by have := H1.out.2.1.lt; omega⟩
      obtain ⟨ob, hob⟩ : ∃ q, w1.heap.size = q := ⟨_, rfl⟩
      rw [hob] at X2' HO'
      rw [hob]
      have HO := HO'
      have X2 := Lib.hid X2'
      have H2 := Lib.hid (H1.out.below hb)
      have Z1_2 := Lib.hid (Z1_1.out.keep hb)
      clear hwn hwm hb X2' HO' hob
      clear H1 Z1_1
      refine rg_next (i := 6) (l := #[true, true, true, true, true, true, true, true, true, true, false, true, true, true, false, false, true, true, false, true, false]) (fuel := 5) (by kernel_rfl) rfl (by kernel_rfl) (by kernel_rfl) (fun K hK => ?_)
      go_simp
      refine (K2.out _ H2.out.2.2).mono ?_
      rintro e w3 ⟨A2, c2, rfl, hz, hb⟩
      have H3 := Lib.hid (H2.out.below hb)
      first | (refine hK.out _ _ ?_ (fun hHeld => ?_)) | (go_wp2_with fail; refine hK.out _ _ ?_ (fun hHeld => ?_))
      · (try dsimp only); exact CE.out _ H3.out
      clear hK K
      try simp only [Act.put, List.setIfInBounds_toArray, List.set_cons_zero, List.set_cons_succ]
      have Z2_3 := Lib.hid hz
      have Z1_3 := Lib.hid (Z1_2.out.keep hb)
      have X3 := Lib.hid (X2.out.below hb X2.out.lt)
      clear hz hb
      clear H2 Z1_2 X2
      refine rg_next (i := 10) (l := #[true, true, true, true, true, true, true, true, true, true, true, true, true, true, false, false, true, true, false, true, false]) (fuel := 4) (by kernel_rfl) rfl (by kernel_rfl) (by kernel_rfl) (fun K hK => ?_)
      go_simp
      refine (K3.out _ H3.out.2.2).mono ?_
      rintro e w4 ⟨A3, c3, rfl, hz, hb⟩
      have H4 := Lib.hid (H3.out.below hb)
      first | (refine hK.out _ _ ?_ (fun hHeld => ?_)) | (go_wp2_with fail; refine hK.out _ _ ?_ (fun hHeld => ?_))
      · (try dsimp only); exact CE.out _ H4.out
      clear hK K
      try simp only [Act.put, List.setIfInBounds_toArray, List.set_cons_zero, List.set_cons_succ]
      have Z3_4 := Lib.hid hz
      have Z1_4 := Lib.hid (Z1_3.out.keep hb)
      have Z2_4 := Lib.hid (Z2_3.out.keep hb)
      have X4 := Lib.hid (X3.out.below hb X3.out.lt)
      clear hz hb
      clear H3 Z1_3 Z2_3 X3
      refine rg_next (i := 14) (l := #[true, true, true, true, true, true, true, true, true, true, true, true, true, true, true, false, true, true, false, true, false]) (fuel := 3) (by kernel_rfl) rfl (by kernel_rfl) (by kernel_rfl) (fun K hK => ?_)
      go_simp
      refine (K4.out _ H4.out.2.2).mono ?_
      rintro e w5 ⟨A4, c4, rfl, hz, hb⟩
      have H5 := Lib.hid (H4.out.below hb)
      first | (refine hK.out _ _ ?_ (fun hHeld => ?_)) | (go_wp2_with fail; refine hK.out _ _ ?_ (fun hHeld => ?_))
      · (try dsimp only); exact CE.out _ H5.out
      clear hK K
      try simp only [Act.put, List.setIfInBounds_toArray, List.set_cons_zero, List.set_cons_succ]
      have Z4_5 := Lib.hid hz
      have Z1_5 := Lib.hid (Z1_4.out.keep hb)
      have Z2_5 := Lib.hid (Z2_4.out.keep hb)
      have Z3_5 := Lib.hid (Z3_4.out.keep hb)
      have X5 := Lib.hid (X4.out.below hb X4.out.lt)
      clear hz hb
      clear H4 Z1_4 Z2_4 Z3_4 X4
      refine rg_take (i := 15) (d := some 23) (l := #[true, true, true, true, true, true, true, true, true, true, true, true, true, true, true, true, true, true, false, true, false]) (fuel := 2) (v := ?_) rfl (by kernel_rfl) (by kernel_rfl) (by kernel_rfl) (by kernel_rfl) (by kernel_rfl) (fun _ _ _ h => h) (by kernel_rfl) ?_ (by assumption) ?_
      rotate_left 1
      · (intro wS hSw; (try dsimp only at hSw); go_simp; try with_reducible rfl)
      try simp only [Act.put, List.setIfInBounds_toArray, List.set_cons_zero, List.set_cons_succ]
      refine rg_take (i := 18) (d := some 26) (l := #[true, true, true, true, true, true, true, true, true, true, true, true, true, true, true, true, true, true, true, true, false]) (fuel := 1) (v := ?_) rfl (by kernel_rfl) (by kernel_rfl) (by kernel_rfl) (by kernel_rfl) (by kernel_rfl) (fun _ _ _ h => h) (by kernel_rfl) ?_ (by assumption) ?_
      rotate_left 1
      · (intro wS hSw; (try dsimp only at hSw); go_simp; try with_reducible rfl)
      try simp only [Act.put, List.setIfInBounds_toArray, List.set_cons_zero, List.set_cons_succ]
      have a0 : w5.cell? ⟨ob, 0, none⟩ = some (.slice none 0 0) := X5.out.cell 0
      have b0 : w5.frozen? ⟨ob, 0, none⟩ = false := X5.out.frozen 0
      have a1 : w5.cell? ⟨ob, 1, none⟩ = some (.slice none 0 0) := X5.out.cell 1
      have b1 : w5.frozen? ⟨ob, 1, none⟩ = false := X5.out.frozen 1
      have a2 : w5.cell? ⟨ob, 2, none⟩ = some (.slice none 0 0) := X5.out.cell 2
      have b2 : w5.frozen? ⟨ob, 2, none⟩ = false := X5.out.frozen 2
      have a3 : w5.cell? ⟨ob, 3, none⟩ = some (.slice none 0 0) := X5.out.cell 3
      have b3 : w5.frozen? ⟨ob, 3, none⟩ = false := X5.out.frozen 3
      have a4 : w5.cell? ⟨ob, 4, none⟩ = some (.slice none 0 0) := X5.out.cell 4
      have b4 : w5.frozen? ⟨ob, 4, none⟩ = false := X5.out.frozen 4
      have a5 : w5.cell? ⟨ob, 5, none⟩ = some (.int .i64 0) := X5.out.cell 5
      have b5 : w5.frozen? ⟨ob, 5, none⟩ = false := X5.out.frozen 5
      have kk : Kp [ob] w5 ((((((w5.setCell ⟨ob, 0, none⟩ (.slice A1 n c1)).setCell ⟨ob, 1, none⟩ (.slice A2 a c2)).setCell ⟨ob, 2, none⟩ (.slice A3 b c3)).setCell ⟨ob, 3, none⟩ (.slice A4 c c4)).setCell ⟨ob, 4, none⟩ (.slice none 0 0)).setCell ⟨ob, 5, none⟩ (.int .i64 bud)) := (((((((Kp.refl [ob] w5).setCell (p := ⟨ob, 0, none⟩) (.inl (by simp)) _).setCell (p := ⟨ob, 1, none⟩) (.inl (by simp)) _).setCell (p := ⟨ob, 2, none⟩) (.inl (by simp)) _).setCell (p := ⟨ob, 3, none⟩) (.inl (by simp)) _).setCell (p := ⟨ob, 4, none⟩) (.inl (by simp)) _).setCell (p := ⟨ob, 5, none⟩) (.inl (by simp)) _)
      have HS := Lib.hid (H5.out.kp kk (fun q hq => by simp only [List.mem_singleton] at hq; subst hq; exact HO.out))
      have ZS := Lib.hid (Cl4.kp (P := P) ⟨Z1_5.out, Z2_5.out, Z3_5.out, Z4_5.out⟩ kk (fun q hq => by simp only [List.mem_singleton] at hq; subst hq; exact ⟨_, _, X5.out, by decide⟩))
      have ES : Hid (UnE w.heap.size ob (.slice A1 n c1) (.slice A2 a c2) (.slice A3 b c3) (.slice A4 c c4) (.int .i64 bud) [] (.slice none 0 0) ((((((w5.setCell ⟨ob, 0, none⟩ (.slice A1 n c1)).setCell ⟨ob, 1, none⟩ (.slice A2 a c2)).setCell ⟨ob, 2, none⟩ (.slice A3 b c3)).setCell ⟨ob, 3, none⟩ (.slice A4 c c4)).setCell ⟨ob, 4, none⟩ (.slice none 0 0)).setCell ⟨ob, 5, none⟩ (.int .i64 bud))) := Lib.hid ⟨(zero_six X5.out H5.out.2.2 HO.out.1 (.slice A1 n c1) (.slice A2 a c2) (.slice A3 b c3) (.slice A4 c c4) (.slice none 0 0) (.int .i64 bud)).2, World.ownsRow_nil _ _ _ _⟩
      clear kk
      refine rg_next (i := 20) (l := #[true, true, true, true, true, true, true, true, true, true, true, true, true, true, true, true, true, true, true, true, true]) (fuel := 0) (by kernel_rfl) rfl (by kernel_rfl) (by kernel_rfl) (fun K hK => ?_)
      go_simp
      skip
      first | (refine hK.out _ _ ?_ (fun hHeld => ?_)) | (go_wp2_with fail; refine hK.out _ _ ?_ (fun hHeld => ?_))
      · (try dsimp only); exact CE.out _ HS.out
      clear hK K
      try simp only [Act.put, List.setIfInBounds_toArray, List.set_cons_zero, List.set_cons_succ]
      obtain ⟨wf, hwf⟩ : ∃ q, ((((((w5.setCell ⟨ob, 0, none⟩ (.slice A1 n c1)).setCell ⟨ob, 1, none⟩ (.slice A2 a c2)).setCell ⟨ob, 2, none⟩ (.slice A3 b c3)).setCell ⟨ob, 3, none⟩ (.slice A4 c c4)).setCell ⟨ob, 4, none⟩ (.slice none 0 0)).setCell ⟨ob, 5, none⟩ (.int .i64 bud)) = q := ⟨_, rfl⟩
      rw [hwf] at HS ZS ES ⊢
      clear hwf a0 a1 a2 a3 a4 a5 b0 b1 b2 b3 b4 b5 X5
      clear H5 Z1_5 Z2_5 Z3_5 Z4_5
      refine wpAnyH_done (by kernel_rfl) ?_ _
      have s4 : wf.cell? ⟨x, 4, none⟩ = some (.slice E m ce) := HS.out.1.cell 4
      go_wp2_with fail
      go_loopw [30] (fun i wr => ∃ (k : Nat) (vE : Value), k ≤ m ∧ i = .int .i64 (k : Int) ∧ UnS w x r #[.slice A n ca, .slice V a cv, .slice C b cc, .slice R c cr, .slice E m ce, .int .i64 bud] wr ∧ Cl4 P A1 n c1 A2 a c2 A3 b c3 A4 c c4 wr ∧ UnE w.heap.size ob (.slice A1 n c1) (.slice A2 a c2) (.slice A3 b c3) (.slice A4 c c4) (.int .i64 bud) (unL st (P.edges.take k)) vE wr) (fun i _ => m - (intOf i).toNat)
      case atStart => exact ⟨0, .slice none 0 0, by omega, rfl, HS.out, ZS.out, ES.out⟩
      case round =>
        obtain ⟨k, vE, hk, rfl, hS, hZ, hE⟩ := hrel
        clear HS ZS ES s4
        have HS := Lib.hid hS
        have ZS := Lib.hid hZ
        have ES := Lib.hid hE
        clear hS hZ hE
        by_cases hlt : k < m
        · obtain ⟨d1, rfl, _, e0, e1, e2⟩ := ERow.cells (FRow.keep ER.out HS.out.2.2) k hlt
          have hnx := unL_next st P.edges k (by rw [← HM.out]; exact hlt)
          obtain ⟨ev, hev⟩ : ∃ v, eL P.edges k = v := ⟨_, rfl⟩
          rw [hev] at e0 e1 e2 hnx
          have HNX := Lib.hid hnx
          clear hev hnx
          have hbA : Below wr.heap.size wr (wr.alloc (.cells (edC ev).toArray 31)) := (Below.refl _ wr).alloc (Nat.le_refl _) _
          by_cases hle : ev.a ≤ st
          · have HA := Lib.hid (HS.out.below hbA)
            have ZA := Lib.hid (ZS.out.kp (L := []) (Kp.of_below hbA) (by simp))
            have EA := Lib.hid (ES.out.kp (Kp.of_below hbA))
            have hll : (unL st (P.edges.take k)).length ≤ 100000000000 := by
              have h1 := unL_len st (P.edges.take k)
              have h2 := List.length_take_le k P.edges
              have h3 := HMB.out
              omega
            obtain ⟨bE, cE, w5, hrun, cc4, zz4, hE5, k5⟩ := EA.out.add (p := ev) HA.out.2.2.size hll
            have hof := EA.out.offs HO.out.1
            have HS5 := Lib.hid (HA.out.kp k5 (fun q hq => by
              obtain ⟨h1, h2, _⟩ := hof q hq
              refine ⟨h1, ?_⟩
              rcases h2 with rfl | ⟨cs, h2⟩
              · exact HO.out.2
              · exact ⟨fun e => h2.ne_ (e ▸ HA.out.1) (by decide) rfl, fun e => h2.ne_ (e ▸ HA.out.2.1) (by decide) rfl⟩))
            have ZS5 := Lib.hid (ZA.out.kp k5 (fun q hq => (hof q hq).2.2))
            have hlen : (unL st (P.edges.take k)).length + 1 = (unL st (P.edges.take (k + 1))).length := by rw [HNX.out, if_pos hle]; simp
            have hE6 : UnE w.heap.size ob (.slice A1 n c1) (.slice A2 a c2) (.slice A3 b c3) (.slice A4 c c4) (.int .i64 bud) (unL st (P.edges.take (k + 1))) (.slice (some ⟨bE, 0, none⟩) ((unL st (P.edges.take k)).length + 1) cE) (w5.setCell ⟨ob, 4, none⟩ (.slice (some ⟨bE, 0, none⟩) ((unL st (P.edges.take k)).length + 1) cE)) := by
              rw [HNX.out, if_pos hle]; exact hE5
            have o4 : (wr.alloc (.cells #[.int .i64 ev.a, .int .u8 ev.b, .bool ev.c] 31)).cell? ⟨ob, 4, none⟩ = some vE := EA.out.1.cell 4
            obtain ⟨tn, htn⟩ : ∃ q, (unL st (P.edges.take k)).length + 1 = q := ⟨_, rfl⟩
            rw [htn] at hrun hE6 HS5 ZS5
            have ES6 := Lib.hid hE6
            have hsz : (wr.alloc (.cells (edC ev).toArray 31)).heap.size = wr.heap.size + 1 := by simp
            rw [hsz] at hrun
            have hrun2 : (Builtin.append_ #[25, 25] 25 #[vE, .slice (some ⟨wr.heap.size + 1, 0, none⟩) 1 1]).run Tryd.prog ((wr.alloc (.cells #[.int .i64 ev.a, .int .u8 ev.b, .bool ev.c] 31)).alloc (.cells #[.int .i64 ev.a, .int .u8 ev.b, .bool ev.c] 31)) = .ok (.slice (some ⟨bE, 0, none⟩) tn cE) w5 := hrun
            clear hrun hsz
            clear hbA hll k5 hof hlen hE5 hE6 htn HA ZA EA
            go_wp2_with (at_builtin; refine wpList_append_run rfl (.tmp 39) (.tmp 41) 25 rfl rfl rfl hrun2 ?_)
            go_roundw
            case rel => exact ⟨k + 1, _, by omega, by go_num, HS5.out, ZS5.out, ES6.out⟩
            case measure => simp [intOf]; omega
          · have HA := Lib.hid (HS.out.below hbA)
            have ZA := Lib.hid (ZS.out.kp (L := []) (Kp.of_below hbA) (by simp))
            have EA : Hid (UnE w.heap.size ob (.slice A1 n c1) (.slice A2 a c2) (.slice A3 b c3) (.slice A4 c c4) (.int .i64 bud) (unL st (P.edges.take (k + 1))) vE (wr.alloc (.cells (edC ev).toArray 31))) := Lib.hid (by rw [HNX.out, if_neg hle, List.append_nil]; exact ES.out.kp (Kp.of_below hbA))
            clear hbA HS ZS ES
            go_wp2_with fail
            go_roundw
            case rel => exact ⟨k + 1, vE, by omega, by go_num, HA.out, ZA.out, EA.out⟩
            case measure => simp [intOf]; omega
        · obtain rfl : k = m := by omega
          have hfull : P.edges.take k = P.edges := List.take_of_length_le (by rw [← HM.out]; exact Nat.le_refl _)
          rw [hfull] at ES
          obtain ⟨AE, kE, rfl, g1, g2, g3, g4, g5, g6⟩ := row_edges ES.out.2
          have hN := ES.out.1
          have kk : Kp [r] wr ((((((wr.setCell ⟨r, 0, none⟩ (.slice A1 n c1)).setCell ⟨r, 1, none⟩ (.slice A2 a c2)).setCell ⟨r, 2, none⟩ (.slice A3 b c3)).setCell ⟨r, 3, none⟩ (.slice A4 c c4)).setCell ⟨r, 4, none⟩ (.slice AE (unL st P.edges).length kE)).setCell ⟨r, 5, none⟩ (.int .i64 bud)) := (((((((Kp.refl [r] wr).setCell (p := ⟨r, 0, none⟩) (.inl (by simp)) _).setCell (p := ⟨r, 1, none⟩) (.inl (by simp)) _).setCell (p := ⟨r, 2, none⟩) (.inl (by simp)) _).setCell (p := ⟨r, 3, none⟩) (.inl (by simp)) _).setCell (p := ⟨r, 4, none⟩) (.inl (by simp)) _).setCell (p := ⟨r, 5, none⟩) (.inl (by simp)) _)
          have hof : ∀ q ∈ [r], ∃ T cs, Blk wr q T cs ∧ T ≠ 5 ∧ T ≠ 31 := fun q hq => by
            simp only [List.mem_singleton] at hq; subst hq; exact ⟨_, _, HS.out.2.1, by decide, by decide⟩
          have SV0 : ScrV wr ⟨A1, n, c1, A2, a, c2, A3, b, c3, A4, c, c4, AE, (unL st P.edges).length, kE, bud⟩ { P with edges := unL st P.edges } := ⟨ZS.out.1, ZS.out.2.1, ZS.out.2.2.1, ZS.out.2.2.2, ⟨rfl, g1, g2, g3, g4, g5⟩, HBU.out⟩
          have SVF := Lib.hid (SV0.kp kk hof)
          have hz := zero_six HS.out.2.1 HS.out.2.2 HR.out (.slice A1 n c1) (.slice A2 a c2) (.slice A3 b c3) (.slice A4 c c4) (.slice AE (unL st P.edges).length kE) (.int .i64 bud)
          obtain ⟨nE, hnE⟩ : ∃ q, (unL st P.edges).length = q := ⟨_, rfl⟩
          rw [hnE] at SVF hz hN
          have n_0 : wr.cell? ⟨ob, 0, none⟩ = some (.slice A1 n c1) := hN.cell 0
          have n_1 : wr.cell? ⟨ob, 1, none⟩ = some (.slice A2 a c2) := hN.cell 1
          have n_2 : wr.cell? ⟨ob, 2, none⟩ = some (.slice A3 b c3) := hN.cell 2
          have n_3 : wr.cell? ⟨ob, 3, none⟩ = some (.slice A4 c c4) := hN.cell 3
          have n_4 : wr.cell? ⟨ob, 4, none⟩ = some (.slice AE nE kE) := hN.cell 4
          have n_5 : wr.cell? ⟨ob, 5, none⟩ = some (.int .i64 bud) := hN.cell 5
          have d0 : wr.cell? ⟨r, 0, none⟩ = some (.slice none 0 0) := HS.out.2.1.cell 0
          have y0 : wr.frozen? ⟨r, 0, none⟩ = false := HS.out.2.1.frozen 0
          have d1 : wr.cell? ⟨r, 1, none⟩ = some (.slice none 0 0) := HS.out.2.1.cell 1
          have y1 : wr.frozen? ⟨r, 1, none⟩ = false := HS.out.2.1.frozen 1
          have d2 : wr.cell? ⟨r, 2, none⟩ = some (.slice none 0 0) := HS.out.2.1.cell 2
          have y2 : wr.frozen? ⟨r, 2, none⟩ = false := HS.out.2.1.frozen 2
          have d3 : wr.cell? ⟨r, 3, none⟩ = some (.slice none 0 0) := HS.out.2.1.cell 3
          have y3 : wr.frozen? ⟨r, 3, none⟩ = false := HS.out.2.1.frozen 3
          have d4 : wr.cell? ⟨r, 4, none⟩ = some (.slice none 0 0) := HS.out.2.1.cell 4
          have y4 : wr.frozen? ⟨r, 4, none⟩ = false := HS.out.2.1.frozen 4
          have d5 : wr.cell? ⟨r, 5, none⟩ = some (.int .i64 0) := HS.out.2.1.cell 5
          have y5 : wr.frozen? ⟨r, 5, none⟩ = false := HS.out.2.1.frozen 5
          have HZ := Lib.hid hz
          clear hz kk hof SV0 hN hnE g1 g2 g3 g4 g5 g6 hfull
          go_wp2_with fail
          (try simp (config := { zetaDelta := true }) only [Exit.inBlock, Exit.then])
          refine bodyPost_ret (results_cell (a := ⟨r, 0, none⟩) Tryd.results12 (by rfl) (HZ.out.2.run_load (P := Tryd.prog) Tryd.underlying27 rfl sizeS)) rfl ?_
          exact ⟨HZ.out.1, ⟨A1, n, c1, A2, a, c2, A3, b, c3, A4, c, c4, AE, nE, kE, bud⟩, rfl, SVF.out⟩
    exact AllReadyH.nil
  refine rg_step (i := 19) (l := #[true, true, false, true, true, true, false, true, true, true, false, true, true, true, false, false, true, true, false, true, false]) rfl (by kernel_rfl) (by kernel_rfl) ?_ ?_
  · intro K hK
    go_simp
    skip
    first | (refine hK.out _ _ ?_ (fun hHeld => ?_)) | (go_wp2_with fail; refine hK.out _ _ ?_ (fun hHeld => ?_))
    · (try dsimp only); exact CE.out _ (H0.out.alloc _)
    clear hK K
    try simp only [Act.put, List.setIfInBounds_toArray, List.set_cons_zero, List.set_cons_succ]
    generalize hwn : World.alloc w0 _ = w1
    have hwm : w0.alloc (.cells sv0.cs 27) = w1 := hwn
    have hb : Below w0.heap.size w0 w1 := hwm ▸ (Below.refl _ w0).alloc (Nat.le_refl _) (.cells sv0.cs 27)
    have X1' : Blk w1 w0.heap.size 27 sv0.cs := hwm ▸ Blk.new _ _ _
    have HO' : Hid (w.heap.size ≤ w0.heap.size ∧ w0.heap.size ≠ x ∧ w0.heap.size ≠ r) := Lib.hid ⟨H0.out.2.2.size, fun e => by have := H0.out.1.lt; omega, fun e => by have := H0.out.2.1.lt; omega⟩
    obtain ⟨ob, hob⟩ : ∃ q, w0.heap.size = q := ⟨_, rfl⟩
    rw [hob] at X1' HO'
    rw [hob]
    have HO := HO'
    have X1 := Lib.hid X1'
    have H1 := Lib.hid (H0.out.below hb)
    clear hwn hwm hb X1' HO' hob
    clear H0
    refine rg_next (i := 2) (l := #[true, true, true, true, true, true, false, true, true, true, false, true, true, true, false, false, true, true, false, true, false]) (fuel := 6) (by kernel_rfl) rfl (by kernel_rfl) (by kernel_rfl) (fun K hK => ?_)
    go_simp
    refine (K1.out _ H1.out.2.2).mono ?_
    rintro e w2 ⟨A1, c1, rfl, hz, hb⟩
    have H2 := Lib.hid (H1.out.below hb)
    first | (refine hK.out _ _ ?_ (fun hHeld => ?_)) | (go_wp2_with fail; refine hK.out _ _ ?_ (fun hHeld => ?_))
    · (try dsimp only); exact CE.out _ H2.out
    clear hK K
    try simp only [Act.put, List.setIfInBounds_toArray, List.set_cons_zero, List.set_cons_succ]
    have Z1_2 := Lib.hid hz
    have X2 := Lib.hid (X1.out.below hb X1.out.lt)
    clear hz hb
    clear H1  X1
    refine rg_next (i := 6) (l := #[true, true, true, true, true, true, true, true, true, true, false, true, true, true, false, false, true, true, false, true, false]) (fuel := 5) (by kernel_rfl) rfl (by kernel_rfl) (by kernel_rfl) (fun K hK => ?_)
    go_simp
    refine (K2.out _ H2.out.2.2).mono ?_
    rintro e w3 ⟨A2, c2, rfl, hz, hb⟩
    have H3 := Lib.hid (H2.out.below hb)
    first | (refine hK.out _ _ ?_ (fun hHeld => ?_)) | (go_wp2_with fail; refine hK.out _ _ ?_ (fun hHeld => ?_))
    · (try dsimp only); exact CE.out _ H3.out
    clear hK K
    try simp only [Act.put, List.setIfInBounds_toArray, List.set_cons_zero, List.set_cons_succ]
    have Z2_3 := Lib.hid hz
    have Z1_3 := Lib.hid (Z1_2.out.keep hb)
    have X3 := Lib.hid (X2.out.below hb X2.out.lt)
    clear hz hb
    clear H2 Z1_2 X2
    refine rg_next (i := 10) (l := #[true, true, true, true, true, true, true, true, true, true, true, true, true, true, false, false, true, true, false, true, false]) (fuel := 4) (by kernel_rfl) rfl (by kernel_rfl) (by kernel_rfl) (fun K hK => ?_)
    go_simp
    refine (K3.out _ H3.out.2.2).mono ?_
    rintro e w4 ⟨A3, c3, rfl, hz, hb⟩
    have H4 := Lib.hid (H3.out.below hb)
    first | (refine hK.out _ _ ?_ (fun hHeld => ?_)) | (go_wp2_with fail; refine hK.out _ _ ?_ (fun hHeld => ?_))
    · (try dsimp only); exact CE.out _ H4.out
    clear hK K
    try simp only [Act.put, List.setIfInBounds_toArray, List.set_cons_zero, List.set_cons_succ]
    have Z3_4 := Lib.hid hz
    have Z1_4 := Lib.hid (Z1_3.out.keep hb)
    have Z2_4 := Lib.hid (Z2_3.out.keep hb)
    have X4 := Lib.hid (X3.out.below hb X3.out.lt)
    clear hz hb
    clear H3 Z1_3 Z2_3 X3
    refine rg_next (i := 14) (l := #[true, true, true, true, true, true, true, true, true, true, true, true, true, true, true, false, true, true, false, true, false]) (fuel := 3) (by kernel_rfl) rfl (by kernel_rfl) (by kernel_rfl) (fun K hK => ?_)
    go_simp
    refine (K4.out _ H4.out.2.2).mono ?_
    rintro e w5 ⟨A4, c4, rfl, hz, hb⟩
    have H5 := Lib.hid (H4.out.below hb)
    first | (refine hK.out _ _ ?_ (fun hHeld => ?_)) | (go_wp2_with fail; refine hK.out _ _ ?_ (fun hHeld => ?_))
    · (try dsimp only); exact CE.out _ H5.out
    clear hK K
    try simp only [Act.put, List.setIfInBounds_toArray, List.set_cons_zero, List.set_cons_succ]
    have Z4_5 := Lib.hid hz
    have Z1_5 := Lib.hid (Z1_4.out.keep hb)
    have Z2_5 := Lib.hid (Z2_4.out.keep hb)
    have Z3_5 := Lib.hid (Z3_4.out.keep hb)
    have X5 := Lib.hid (X4.out.below hb X4.out.lt)
    clear hz hb
    clear H4 Z1_4 Z2_4 Z3_4 X4
    refine rg_take (i := 15) (d := some 23) (l := #[true, true, true, true, true, true, true, true, true, true, true, true, true, true, true, true, true, true, false, true, false]) (fuel := 2) (v := ?_) rfl (by kernel_rfl) (by kernel_rfl) (by kernel_rfl) (by kernel_rfl) (by kernel_rfl) (fun _ _ _ h => h) (by kernel_rfl) ?_ (by assumption) ?_
    rotate_left 1
    · (intro wS hSw; (try dsimp only at hSw); go_simp; try with_reducible rfl)
    try simp only [Act.put, List.setIfInBounds_toArray, List.set_cons_zero, List.set_cons_succ]
    refine rg_take (i := 18) (d := some 26) (l := #[true, true, true, true, true, true, true, true, true, true, true, true, true, true, true, true, true, true, true, true, false]) (fuel := 1) (v := ?_) rfl (by kernel_rfl) (by kernel_rfl) (by kernel_rfl) (by kernel_rfl) (by kernel_rfl) (fun _ _ _ h => h) (by kernel_rfl) ?_ (by assumption) ?_
    rotate_left 1
    · (intro wS hSw; (try dsimp only at hSw); go_simp; try with_reducible rfl)
    try simp only [Act.put, List.setIfInBounds_toArray, List.set_cons_zero, List.set_cons_succ]
    have a0 : w5.cell? ⟨ob, 0, none⟩ = some (.slice none 0 0) := X5.out.cell 0
    have b0 : w5.frozen? ⟨ob, 0, none⟩ = false := X5.out.frozen 0
    have a1 : w5.cell? ⟨ob, 1, none⟩ = some (.slice none 0 0) := X5.out.cell 1
    have b1 : w5.frozen? ⟨ob, 1, none⟩ = false := X5.out.frozen 1
    have a2 : w5.cell? ⟨ob, 2, none⟩ = some (.slice none 0 0) := X5.out.cell 2
    have b2 : w5.frozen? ⟨ob, 2, none⟩ = false := X5.out.frozen 2
    have a3 : w5.cell? ⟨ob, 3, none⟩ = some (.slice none 0 0) := X5.out.cell 3
    have b3 : w5.frozen? ⟨ob, 3, none⟩ = false := X5.out.frozen 3
    have a4 : w5.cell? ⟨ob, 4, none⟩ = some (.slice none 0 0) := X5.out.cell 4
    have b4 : w5.frozen? ⟨ob, 4, none⟩ = false := X5.out.frozen 4
    have a5 : w5.cell? ⟨ob, 5, none⟩ = some (.int .i64 0) := X5.out.cell 5
    have b5 : w5.frozen? ⟨ob, 5, none⟩ = false := X5.out.frozen 5
    have kk : Kp [ob] w5 ((((((w5.setCell ⟨ob, 0, none⟩ (.slice A1 n c1)).setCell ⟨ob, 1, none⟩ (.slice A2 a c2)).setCell ⟨ob, 2, none⟩ (.slice A3 b c3)).setCell ⟨ob, 3, none⟩ (.slice A4 c c4)).setCell ⟨ob, 4, none⟩ (.slice none 0 0)).setCell ⟨ob, 5, none⟩ (.int .i64 bud)) := (((((((Kp.refl [ob] w5).setCell (p := ⟨ob, 0, none⟩) (.inl (by simp)) _).setCell (p := ⟨ob, 1, none⟩) (.inl (by simp)) _).setCell (p := ⟨ob, 2, none⟩) (.inl (by simp)) _).setCell (p := ⟨ob, 3, none⟩) (.inl (by simp)) _).setCell (p := ⟨ob, 4, none⟩) (.inl (by simp)) _).setCell (p := ⟨ob, 5, none⟩) (.inl (by simp)) _)
    have HS := Lib.hid (H5.out.kp kk (fun q hq => by simp only [List.mem_singleton] at hq; subst hq; exact HO.out))
    have ZS := Lib.hid (Cl4.kp (P := P) ⟨Z1_5.out, Z2_5.out, Z3_5.out, Z4_5.out⟩ kk (fun q hq => by simp only [List.mem_singleton] at hq; subst hq; exact ⟨_, _, X5.out, by decide⟩))
    have ES : Hid (UnE w.heap.size ob (.slice A1 n c1) (.slice A2 a c2) (.slice A3 b c3) (.slice A4 c c4) (.int .i64 bud) [] (.slice none 0 0) ((((((w5.setCell ⟨ob, 0, none⟩ (.slice A1 n c1)).setCell ⟨ob, 1, none⟩ (.slice A2 a c2)).setCell ⟨ob, 2, none⟩ (.slice A3 b c3)).setCell ⟨ob, 3, none⟩ (.slice A4 c c4)).setCell ⟨ob, 4, none⟩ (.slice none 0 0)).setCell ⟨ob, 5, none⟩ (.int .i64 bud))) := Lib.hid ⟨(zero_six X5.out H5.out.2.2 HO.out.1 (.slice A1 n c1) (.slice A2 a c2) (.slice A3 b c3) (.slice A4 c c4) (.slice none 0 0) (.int .i64 bud)).2, World.ownsRow_nil _ _ _ _⟩
    clear kk
    refine rg_next (i := 20) (l := #[true, true, true, true, true, true, true, true, true, true, true, true, true, true, true, true, true, true, true, true, true]) (fuel := 0) (by kernel_rfl) rfl (by kernel_rfl) (by kernel_rfl) (fun K hK => ?_)
    go_simp
    skip
    first | (refine hK.out _ _ ?_ (fun hHeld => ?_)) | (go_wp2_with fail; refine hK.out _ _ ?_ (fun hHeld => ?_))
    · (try dsimp only); exact CE.out _ HS.out
    clear hK K
    try simp only [Act.put, List.setIfInBounds_toArray, List.set_cons_zero, List.set_cons_succ]
    obtain ⟨wf, hwf⟩ : ∃ q, ((((((w5.setCell ⟨ob, 0, none⟩ (.slice A1 n c1)).setCell ⟨ob, 1, none⟩ (.slice A2 a c2)).setCell ⟨ob, 2, none⟩ (.slice A3 b c3)).setCell ⟨ob, 3, none⟩ (.slice A4 c c4)).setCell ⟨ob, 4, none⟩ (.slice none 0 0)).setCell ⟨ob, 5, none⟩ (.int .i64 bud)) = q := ⟨_, rfl⟩
    rw [hwf] at HS ZS ES ⊢
    clear hwf a0 a1 a2 a3 a4 a5 b0 b1 b2 b3 b4 b5 X5
    clear H5 Z1_5 Z2_5 Z3_5 Z4_5
    refine wpAnyH_done (by kernel_rfl) ?_ _
    have s4 : wf.cell? ⟨x, 4, none⟩ = some (.slice E m ce) := HS.out.1.cell 4
    go_wp2_with fail
    go_loopw [30] (fun i wr => ∃ (k : Nat) (vE : Value), k ≤ m ∧ i = .int .i64 (k : Int) ∧ UnS w x r #[.slice A n ca, .slice V a cv, .slice C b cc, .slice R c cr, .slice E m ce, .int .i64 bud] wr ∧ Cl4 P A1 n c1 A2 a c2 A3 b c3 A4 c c4 wr ∧ UnE w.heap.size ob (.slice A1 n c1) (.slice A2 a c2) (.slice A3 b c3) (.slice A4 c c4) (.int .i64 bud) (unL st (P.edges.take k)) vE wr) (fun i _ => m - (intOf i).toNat)
    case atStart => exact ⟨0, .slice none 0 0, by omega, rfl, HS.out, ZS.out, ES.out⟩
    case round =>
      obtain ⟨k, vE, hk, rfl, hS, hZ, hE⟩ := hrel
      clear HS ZS ES s4
      have HS := Lib.hid hS
      have ZS := Lib.hid hZ
      have ES := Lib.hid hE
      clear hS hZ hE
      by_cases hlt : k < m
      · obtain ⟨d1, rfl, _, e0, e1, e2⟩ := ERow.cells (FRow.keep ER.out HS.out.2.2) k hlt
        have hnx := unL_next st P.edges k (by rw [← HM.out]; exact hlt)
        obtain ⟨ev, hev⟩ : ∃ v, eL P.edges k = v := ⟨_, rfl⟩
        rw [hev] at e0 e1 e2 hnx
        have HNX := Lib.hid hnx
        clear hev hnx
        have hbA : Below wr.heap.size wr (wr.alloc (.cells (edC ev).toArray 31)) := (Below.refl _ wr).alloc (Nat.le_refl _) _
        by_cases hle : ev.a ≤ st
        · have HA := Lib.hid (HS.out.below hbA)
          have ZA := Lib.hid (ZS.out.kp (L := []) (Kp.of_below hbA) (by simp))
          have EA := Lib.hid (ES.out.kp (Kp.of_below hbA))
          have hll : (unL st (P.edges.take k)).length ≤ 100000000000 := by
            have h1 := unL_len st (P.edges.take k)
            have h2 := List.length_take_le k P.edges
            have h3 := HMB.out
            omega
          obtain ⟨bE, cE, w5, hrun, cc4, zz4, hE5, k5⟩ := EA.out.add (p := ev) HA.out.2.2.size hll
          have hof := EA.out.offs HO.out.1
          have HS5 := Lib.hid (HA.out.kp k5 (fun q hq => by
            obtain ⟨h1, h2, _⟩ := hof q hq
            refine ⟨h1, ?_⟩
            rcases h2 with rfl | ⟨cs, h2⟩
            · exact HO.out.2
            · exact ⟨fun e => h2.ne_ (e ▸ HA.out.1) (by decide) rfl, fun e => h2.ne_ (e ▸ HA.out.2.1) (by decide) rfl⟩))
          have ZS5 := Lib.hid (ZA.out.kp k5 (fun q hq => (hof q hq).2.2))
          have hlen : (unL st (P.edges.take k)).length + 1 = (unL st (P.edges.take (k + 1))).length := by rw [HNX.out, if_pos hle]; simp
          have hE6 : UnE w.heap.size ob (.slice A1 n c1) (.slice A2 a c2) (.slice A3 b c3) (.slice A4 c c4) (.int .i64 bud) (unL st (P.edges.take (k + 1))) (.slice (some ⟨bE, 0, none⟩) ((unL st (P.edges.take k)).length + 1) cE) (w5.setCell ⟨ob, 4, none⟩ (.slice (some ⟨bE, 0, none⟩) ((unL st (P.edges.take k)).length + 1) cE)) := by
            rw [HNX.out, if_pos hle]; exact hE5
          have o4 : (wr.alloc (.cells #[.int .i64 ev.a, .int .u8 ev.b, .bool ev.c] 31)).cell? ⟨ob, 4, none⟩ = some vE := EA.out.1.cell 4
          obtain ⟨tn, htn⟩ : ∃ q, (unL st (P.edges.take k)).length + 1 = q := ⟨_, rfl⟩
          rw [htn] at hrun hE6 HS5 ZS5
          have ES6 := Lib.hid hE6
          have hsz : (wr.alloc (.cells (edC ev).toArray 31)).heap.size = wr.heap.size + 1 := by simp
          rw [hsz] at hrun
          have hrun2 : (Builtin.append_ #[25, 25] 25 #[vE, .slice (some ⟨wr.heap.size + 1, 0, none⟩) 1 1]).run Tryd.prog ((wr.alloc (.cells #[.int .i64 ev.a, .int .u8 ev.b, .bool ev.c] 31)).alloc (.cells #[.int .i64 ev.a, .int .u8 ev.b, .bool ev.c] 31)) = .ok (.slice (some ⟨bE, 0, none⟩) tn cE) w5 := hrun
          clear hrun hsz
          clear hbA hll k5 hof hlen hE5 hE6 htn HA ZA EA
          go_wp2_with (at_builtin; refine wpList_append_run rfl (.tmp 39) (.tmp 41) 25 rfl rfl rfl hrun2 ?_)
          go_roundw
          case rel => exact ⟨k + 1, _, by omega, by go_num, HS5.out, ZS5.out, ES6.out⟩
          case measure => simp [intOf]; omega
        · have HA := Lib.hid (HS.out.below hbA)
          have ZA := Lib.hid (ZS.out.kp (L := []) (Kp.of_below hbA) (by simp))
          have EA : Hid (UnE w.heap.size ob (.slice A1 n c1) (.slice A2 a c2) (.slice A3 b c3) (.slice A4 c c4) (.int .i64 bud) (unL st (P.edges.take (k + 1))) vE (wr.alloc (.cells (edC ev).toArray 31))) := Lib.hid (by rw [HNX.out, if_neg hle, List.append_nil]; exact ES.out.kp (Kp.of_below hbA))
          clear hbA HS ZS ES
          go_wp2_with fail
          go_roundw
          case rel => exact ⟨k + 1, vE, by omega, by go_num, HA.out, ZA.out, EA.out⟩
          case measure => simp [intOf]; omega
      · obtain rfl : k = m := by omega
        have hfull : P.edges.take k = P.edges := List.take_of_length_le (by rw [← HM.out]; exact Nat.le_refl _)
        rw [hfull] at ES
        obtain ⟨AE, kE, rfl, g1, g2, g3, g4, g5, g6⟩ := row_edges ES.out.2
        have hN := ES.out.1
        have kk : Kp [r] wr ((((((wr.setCell ⟨r, 0, none⟩ (.slice A1 n c1)).setCell ⟨r, 1, none⟩ (.slice A2 a c2)).setCell ⟨r, 2, none⟩ (.slice A3 b c3)).setCell ⟨r, 3, none⟩ (.slice A4 c c4)).setCell ⟨r, 4, none⟩ (.slice AE (unL st P.edges).length kE)).setCell ⟨r, 5, none⟩ (.int .i64 bud)) := (((((((Kp.refl [r] wr).setCell (p := ⟨r, 0, none⟩) (.inl (by simp)) _).setCell (p := ⟨r, 1, none⟩) (.inl (by simp)) _).setCell (p := ⟨r, 2, none⟩) (.inl (by simp)) _).setCell (p := ⟨r, 3, none⟩) (.inl (by simp)) _).setCell (p := ⟨r, 4, none⟩) (.inl (by simp)) _).setCell (p := ⟨r, 5, none⟩) (.inl (by simp)) _)
        have hof : ∀ q ∈ [r], ∃ T cs, Blk wr q T cs ∧ T ≠ 5 ∧ T ≠ 31 := fun q hq => by
          simp only [List.mem_singleton] at hq; subst hq; exact ⟨_, _, HS.out.2.1, by decide, by decide⟩
        have SV0 : ScrV wr ⟨A1, n, c1, A2, a, c2, A3, b, c3, A4, c, c4, AE, (unL st P.edges).length, kE, bud⟩ { P with edges := unL st P.edges } := ⟨ZS.out.1, ZS.out.2.1, ZS.out.2.2.1, ZS.out.2.2.2, ⟨rfl, g1, g2, g3, g4, g5⟩, HBU.out⟩
        have SVF := Lib.hid (SV0.kp kk hof)
        have hz := zero_six HS.out.2.1 HS.out.2.2 HR.out (.slice A1 n c1) (.slice A2 a c2) (.slice A3 b c3) (.slice A4 c c4) (.slice AE (unL st P.edges).length kE) (.int .i64 bud)
        obtain ⟨nE, hnE⟩ : ∃ q, (unL st P.edges).length = q := ⟨_, rfl⟩
        rw [hnE] at SVF hz hN
        have n_0 : wr.cell? ⟨ob, 0, none⟩ = some (.slice A1 n c1) := hN.cell 0
        have n_1 : wr.cell? ⟨ob, 1, none⟩ = some (.slice A2 a c2) := hN.cell 1
        have n_2 : wr.cell? ⟨ob, 2, none⟩ = some (.slice A3 b c3) := hN.cell 2
        have n_3 : wr.cell? ⟨ob, 3, none⟩ = some (.slice A4 c c4) := hN.cell 3
        have n_4 : wr.cell? ⟨ob, 4, none⟩ = some (.slice AE nE kE) := hN.cell 4
        have n_5 : wr.cell? ⟨ob, 5, none⟩ = some (.int .i64 bud) := hN.cell 5
        have d0 : wr.cell? ⟨r, 0, none⟩ = some (.slice none 0 0) := HS.out.2.1.cell 0
        have y0 : wr.frozen? ⟨r, 0, none⟩ = false := HS.out.2.1.frozen 0
        have d1 : wr.cell? ⟨r, 1, none⟩ = some (.slice none 0 0) := HS.out.2.1.cell 1
        have y1 : wr.frozen? ⟨r, 1, none⟩ = false := HS.out.2.1.frozen 1
        have d2 : wr.cell? ⟨r, 2, none⟩ = some (.slice none 0 0) := HS.out.2.1.cell 2
        have y2 : wr.frozen? ⟨r, 2, none⟩ = false := HS.out.2.1.frozen 2
        have d3 : wr.cell? ⟨r, 3, none⟩ = some (.slice none 0 0) := HS.out.2.1.cell 3
        have y3 : wr.frozen? ⟨r, 3, none⟩ = false := HS.out.2.1.frozen 3
        have d4 : wr.cell? ⟨r, 4, none⟩ = some (.slice none 0 0) := HS.out.2.1.cell 4
        have y4 : wr.frozen? ⟨r, 4, none⟩ = false := HS.out.2.1.frozen 4
        have d5 : wr.cell? ⟨r, 5, none⟩ = some (.int .i64 0) := HS.out.2.1.cell 5
        have y5 : wr.frozen? ⟨r, 5, none⟩ = false := HS.out.2.1.frozen 5
        have HZ := Lib.hid hz
        clear hz kk hof SV0 hN hnE g1 g2 g3 g4 g5 g6 hfull
        go_wp2_with fail
        (try simp (config := { zetaDelta := true }) only [Exit.inBlock, Exit.then])
        refine bodyPost_ret (results_cell (a := ⟨r, 0, none⟩) Tryd.results12 (by rfl) (HZ.out.2.run_load (P := Tryd.prog) Tryd.underlying27 rfl sizeS)) rfl ?_
        exact ⟨HZ.out.1, ⟨A1, n, c1, A2, a, c2, A3, b, c3, A4, c, c4, AE, nE, kE, bud⟩, rfl, SVF.out⟩
  exact AllReadyH.nil
end Go.Proofs.YtnhnphifhkkboaaDoor
