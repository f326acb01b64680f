/-
  Texts of these proofs, one behind the other: Wv.
-/
import Derived.Test.YtleofglnlfpoeaaGreatKBP47
import Derived.SizedLaws
namespace Go.Proofs.YtleofglnlfpoeaaGreat
open Go.RowKit
open Go.ChangeShapes Go.WideShapes Go.ChangeAt
open Go.Deep
set_option linter.unusedVariables false
set_option linter.unusedSimpArgs false
set_option maxRecDepth 100000
section
variable {H : Type} {enc : TypeId × Value → H} {P : Program} {w : World} {base : Nat} {t e eb : TypeId} {f0 f1 f2 f3 : Field} {v : Value} {d : DataW H} {ps : List MemPlace}
theorem field_pieces (ht : P.underlying t = some (.slice e)) (he : P.underlying e = some (.struct #[f0, f1])) (hone : oneCellFields P #[f0, f1] = true) (hC : P.cellsOf e = 2)
    (h0 : P.underlying f0.type = some (.int .i64)) (h1 : P.underlying f1.type = some (.slice eb)) (h2 : P.underlying eb = some (.int .u8)) (h3 : P.cellsOf eb = 1)
    {fuel : Nat} (hf : DataW.trod enc P w base (fun _ => true) true fuel t [v] = some (d, ps)) :
    ∃ A n cap pcs, v = .slice A n cap ∧ n ≤ cap ∧ cap ≤ maxLen ∧ PRow w A n pcs := by
  obtain ⟨a0, len, cap, hv0⟩ := Go.Joins.slice_form ht hf
  obtain rfl : v = .slice a0 len cap := by simpa using hv0
  clear hv0
  rcases open_slice_fields ht he hone hC hf with ⟨hcs, _⟩ | ⟨a, len', cap', m, D, Pl, hcs, _, hl, hm, hmm, _, hi⟩
  · simp only [List.cons.injEq, Value.slice.injEq, and_true] at hcs
    obtain ⟨rfl, rfl, rfl⟩ := hcs
    exact ⟨none, 0, 0, fun _ => ⟨0, none, 0, 0, fun _ => 0⟩, rfl, Nat.le_refl _, by unfold maxLen; omega, fun i hi => absurd hi (by omega)⟩
  · simp only [List.cons.injEq, Value.slice.injEq, and_true] at hcs
    obtain ⟨rfl, rfl, rfl⟩ := hcs
    simp only [if_true] at hmm
    have key : ∀ i, i < len → ∃ p : Pc, w.cell? (a.add (i * 2)) = some (.int .i64 p.at_) ∧ w.cell? (a.add (i * 2 + 1)) = some (.slice p.A p.n p.c) ∧ PcOk w p := fun i hil => by
      obtain ⟨ys, n, _, _, _, hfs⟩ := hi i (by omega)
      obtain ⟨v0, y0, c0, _, t0⟩ := hfs 0 f0 rfl
      obtain ⟨v1, y1, c1, _, t1⟩ := hfs 1 f1 rfl
      obtain ⟨z, e0, _, wz⟩ := DataW.trod_int h0 t0
      simp only [List.cons.injEq, and_true] at e0
      subst e0
      obtain ⟨A, nn, cc, zs, rfl, g1, g2, g3⟩ := field_ints h1 h2 h3 t1
      exact ⟨⟨z, A, nn, cc, zs⟩, c0, c1, wz, g1, g2, g3⟩
    classical
    refine ⟨some a, len, cap, fun i => if h : i < len then Classical.choose (key i h) else ⟨0, none, 0, 0, fun _ => 0⟩, rfl, hl, hm, fun i hil => ⟨a, rfl, ?_, ?_⟩⟩
    · have := cell_lt (Classical.choose_spec (key i hil)).1; rwa [block_of_add] at this
    · simp only [dif_pos hil]; exact Classical.choose_spec (key i hil)
theorem field_iib {k0 k1 : IntKind} (ht : P.underlying t = some (.slice e)) (he : P.underlying e = some (.struct #[f0, f1, f2])) (hone : oneCellFields P #[f0, f1, f2] = true) (hC : P.cellsOf e = 3)
    (h0 : P.underlying f0.type = some (.int k0)) (h1 : P.underlying f1.type = some (.int k1)) (h2 : P.underlying f2.type = some .bool)
    {fuel : Nat} (hf : DataW.trod enc P w base (fun _ => true) true fuel t [v] = some (d, ps)) :
    ∃ (A : Option Addr) (n cap : Nat) (qs : Nat → Iib), v = .slice A n cap ∧ n ≤ cap ∧ cap ≤ maxLen ∧ FRow w 3 A n (fun i => iibV k0 k1 (qs i)) ∧ (∀ i, i < n → (Lit.int k0 (qs i).a).wf = true ∧ (Lit.int k1 (qs i).b).wf = true) ∧ (A = none → n = 0 ∧ cap = 0) := by
  obtain ⟨a0, len, cap, hv0⟩ := Go.Joins.slice_form ht hf
  obtain rfl : v = .slice a0 len cap := by simpa using hv0
  clear hv0
  rcases open_slice_fields ht he hone hC hf with ⟨hcs, _⟩ | ⟨a, len', cap', m, D, Pl, hcs, _, hl, hm, hmm, _, hi⟩
  · simp only [List.cons.injEq, Value.slice.injEq, and_true] at hcs
    obtain ⟨rfl, rfl, rfl⟩ := hcs
    exact ⟨none, 0, 0, fun _ => ⟨0, 0, false⟩, rfl, Nat.le_refl _, by unfold maxLen; omega, fun i hi => absurd hi (by omega), fun i hi => absurd hi (by omega), fun _ => ⟨rfl, rfl⟩⟩
  · simp only [List.cons.injEq, Value.slice.injEq, and_true] at hcs
    obtain ⟨rfl, rfl, rfl⟩ := hcs
    simp only [if_true] at hmm
    have key : ∀ i, i < len → ∃ p : Iib, w.cell? (a.add (i * 3)) = some (.int k0 p.a) ∧ w.cell? (a.add (i * 3 + 1)) = some (.int k1 p.b) ∧ w.cell? (a.add (i * 3 + 2)) = some (.bool p.c) ∧ (Lit.int k0 p.a).wf = true ∧ (Lit.int k1 p.b).wf = true := fun i hil => by
      obtain ⟨ys, n, _, _, _, hfs⟩ := hi i (by omega)
      obtain ⟨v0, y0, c0, _, t0⟩ := hfs 0 f0 rfl
      obtain ⟨v1, y1, c1, _, t1⟩ := hfs 1 f1 rfl
      obtain ⟨v2, y2, c2, _, t2⟩ := hfs 2 f2 rfl
      obtain ⟨z, e0, _, wz⟩ := DataW.trod_int h0 t0
      obtain ⟨z1, e1, _, wz1⟩ := DataW.trod_int h1 t1
      obtain ⟨z2, e2, _⟩ := DataW.trod_bool h2 t2
      simp only [List.cons.injEq, and_true] at e0 e1 e2
      subst e0 e1 e2
      exact ⟨⟨z, z1, z2⟩, c0, c1, c2, wz, wz1⟩
    classical
    refine ⟨some a, len, cap, fun i => if h : i < len then Classical.choose (key i h) else ⟨0, 0, false⟩, rfl, hl, hm, fun i hil => ⟨a, rfl, ?_, ?_⟩, fun i hil => ?_, fun x => by cases x⟩
    · have := cell_lt (Classical.choose_spec (key i hil)).1; rwa [block_of_add] at this
    · intro j hj
      have h := Classical.choose_spec (key i hil)
      simp only [dif_pos hil]
      rcases j with _ | _ | _ | j
      · exact h.1
      · exact h.2.1
      · exact h.2.2.1
      · omega
    · simp only [dif_pos hil]; exact (Classical.choose_spec (key i hil)).2.2.2
theorem field_ints_sized {k : IntKind} (ht : P.underlying t = some (.slice e)) (he : P.underlying e = some (.int k)) (hc : P.cellsOf e = 1) {fuel : Nat} (hf : DataW.trod enc P w base (fun _ => true) true fuel t [v] = some (d, ps)) :
    ∃ A n cap zs, v = .slice A n cap ∧ n ≤ cap ∧ cap ≤ maxLen ∧ IRow w k A n zs ∧ ((∃ E S, d = .slice E S ∧ E.length + S.length = cap) ∨ cap = 0) ∧ (A = none → n = 0 ∧ cap = 0) := by
  obtain ⟨a0, len, cap, hv0⟩ := Go.Joins.slice_form ht hf
  obtain rfl : v = .slice a0 len cap := by simpa using hv0
  clear hv0
  rcases open_ints ht he hc hf with ⟨hcs, _⟩ | ⟨a, len', cap', zs, hcs, _, hl, hm, hz, hx, hcell, hwz⟩
  · simp only [List.cons.injEq, Value.slice.injEq, and_true] at hcs
    obtain ⟨rfl, rfl, rfl⟩ := hcs
    exact ⟨none, 0, 0, fun _ => 0, rfl, Nat.le_refl _, by unfold maxLen; omega, fun i hi => absurd hi (by omega), Or.inr rfl, fun _ => ⟨rfl, rfl⟩⟩
  · simp only [List.cons.injEq, Value.slice.injEq, and_true] at hcs
    obtain ⟨rfl, rfl, rfl⟩ := hcs
    simp only [if_true] at hz
    simp only [Prod.mk.injEq] at hx
    refine ⟨some a, len, cap, fun i => zs.getD i 0, rfl, hl, hm, fun i hi => ⟨a, rfl, ?_, hcell i (by omega), ?_⟩, Or.inl ⟨_, _, hx.1, ?_⟩, fun x => by cases x⟩
    · have := cell_lt (hcell i (by omega)); rwa [block_of_add] at this
    · have hi' : i < zs.length := by omega
      exact hwz _ (by simp [List.getD, List.getElem?_eq_getElem hi'])
    · simp [lits]; omega

theorem array6 {α : Type} {cs : Array α} (h : cs.size = 6) : ∃ c0 c1 c2 c3 c4 c5, cs = #[c0, c1, c2, c3, c4, c5] := by
  obtain ⟨l⟩ := cs
  match l, h with
  | [c0, c1, c2, c3, c4, c5], _ => exact ⟨c0, c1, c2, c3, c4, c5, rfl⟩
theorem reach_in {ts : List TypeId} {ds parts : List (DataW H)} {fs : Array Field} {j i : Nat} {d0 : DataW H} {tf : TypeId} {cap : Nat} (h : (DataW.weightsEach P ts ds).all (· ≤ reachBytes) = true) (hj : ts[j]? = some t) (hd : ds[j]? = some (.agg parts)) (hu : P.underlying t = some (.struct fs))
    (hi : (fs.toList.map (·.type))[i]? = some tf) (hp : parts[i]? = some d0) (hu2 : P.underlying tf = some (.slice e)) (hb : P.bytesOf e = 1) (hx : (∃ E S, d0 = .slice E S ∧ E.length + S.length = cap) ∨ cap = 0) : cap ≤ 140737488355328 := by
  rcases hx with ⟨E, S, rfl, hl⟩ | rfl
  · have h1 : (E.length + S.length) * P.bytesOf e ∈ DataW.weightsEach P (fs.toList.map (·.type)) parts := DataW.weights_mem_each hi hp _ (by simp [DataW.weights, hu2])
    have h2 := List.all_eq_true.1 h _ (DataW.weights_mem_each hj hd _ (by simp only [DataW.weights, hu]; exact h1))
    have h3 : (E.length + S.length) * P.bytesOf e ≤ reachBytes := by simpa using h2
    rw [hb, Nat.mul_one, hl] at h3
    have := reachBytes_lt
    omega
  · omega
/-- rom, ram, feeds, edges. -/
theorem world_value {g0 g1 g2 a0 a1 b0 b1 b2 : Field} {e1 e2 : TypeId} {r : Reach} {z0 : Nat}
    (hs : P.underlying t = some (.struct #[f0, f1, f2, f3])) (hC : P.cellsOf t = 6) (hl : (f0.offset, P.cellsOf f0.type, f1.offset, P.cellsOf f1.type, f2.offset, P.cellsOf f2.type, f3.offset, P.cellsOf f3.type) = (0, 1, 1, 1, 2, 3, 5, 1))
    (u0 : P.underlying f0.type = some (.slice eb)) (ub : P.underlying eb = some (.int .u8)) (cb : P.cellsOf eb = 1)
    (u1 : P.underlying f1.type = some (.slice e1)) (x1 : P.underlying e1 = some (.struct #[a0, a1])) (y1 : oneCellFields P #[a0, a1] = true) (k1 : P.cellsOf e1 = 2) (p0 : P.underlying a0.type = some (.int .i64)) (p1 : P.underlying a1.type = some (.slice eb))
    (u2 : P.underlying f2.type = some (.struct #[g0, g1, g2])) (y2 : oneCellFields P #[g0, g1, g2] = true) (q0 : P.underlying g0.type = some (.slice eb)) (q1 : P.underlying g1.type = some (.slice eb)) (q2 : P.underlying g2.type = some (.slice eb))
    (u3 : P.underlying f3.type = some (.slice e2)) (x3 : P.underlying e2 = some (.struct #[b0, b1, b2])) (y3 : oneCellFields P #[b0, b1, b2] = true) (k3 : P.cellsOf e2 = 3) (s0 : P.underlying b0.type = some (.int .i64)) (s1 : P.underlying b1.type = some (.int .u8)) (s2 : P.underlying b2.type = some .bool)
    (hval : Value.okWide P w r z0 t v) (hd : DataW.Trod enc P w base (fun _ => true) true t v d ps) :
    ∃ (rA : Option Addr) (rn rc : Nat) (rz : Nat → Int) (mA : Option Addr) (mn mc : Nat) (pcs : Nat → Pc) (p q s : Fz) (A : Option Addr) (n c : Nat) (es : Nat → Iib) (D0 D1 D2 D3 : DataW H),
      v = .agg #[.slice rA rn rc, .slice mA mn mc, .slice p.A p.n p.c, .slice q.A q.n q.c, .slice s.A s.n s.c, .slice A n c] ∧ d = .agg [D0, D1, D2, D3] ∧
      rn ≤ rc ∧ IRow w .u8 rA rn rz ∧ ((∃ E S, D0 = .slice E S ∧ E.length + S.length = rc) ∨ rc = 0) ∧ (rA = none → rn = 0 ∧ rc = 0) ∧
      mn ≤ mc ∧ mc ≤ maxLen ∧ PRow w mA mn pcs ∧ FzOk w p ∧ FzOk w q ∧ FzOk w s ∧
      n ≤ c ∧ c ≤ maxLen ∧ FRow w 3 A n (fun i => iibV .i64 .u8 (es i)) ∧ (∀ i, i < n → (Lit.int .i64 (es i).a).wf = true ∧ (Lit.int .u8 (es i).b).wf = true) ∧ (A = none → n = 0 ∧ c = 0) := by
  obtain ⟨cs, rfl, hsz⟩ := okWide_struct hs hval
  obtain ⟨c0, c1, c2, c3, c4, c5, rfl⟩ := array6 (hsz.trans hC)
  obtain ⟨fuel, hf⟩ := hd
  obtain ⟨t0, t1, t2, t3, nn, hx, _, h0, h1, h2, h3⟩ := Go.Joins.trod_struct4 hs hf
  simp only [Prod.mk.injEq] at hl
  obtain ⟨l0, l1, l2, l3, l4, l5, l6, l7⟩ := hl
  simp only [Prod.mk.injEq] at hx
  replace h0 : DataW.trod enc P w base (fun _ => true) true nn f0.type [c0] = some (t0.1, t0.2) := by simpa [Value.cells, l0, l1] using h0
  replace h1 : DataW.trod enc P w base (fun _ => true) true nn f1.type [c1] = some (t1.1, t1.2) := by simpa [Value.cells, l2, l3] using h1
  replace h2 : DataW.trod enc P w base (fun _ => true) true nn f2.type [c2, c3, c4] = some t2 := by simpa [Value.cells, l4, l5] using h2
  replace h3 : DataW.trod enc P w base (fun _ => true) true nn f3.type [c5] = some (t3.1, t3.2) := by simpa [Value.cells, l6, l7] using h3
  obtain ⟨rA, rn, rc, rz, rfl, i1, i2, i3, i4, i5⟩ := field_ints_sized u0 ub cb h0
  obtain ⟨mA, mn, mc, pcs, rfl, j1, j2, j3⟩ := field_pieces u1 x1 y1 k1 p0 p1 ub cb h1
  obtain ⟨w0, w1, w2, n2, hx2, _, g0', g1', g2'⟩ := trod_struct3 u2 h2
  obtain ⟨o0, m0⟩ := hone_of y2 0 g0 rfl
  obtain ⟨o1, m1⟩ := hone_of y2 1 g1 rfl
  obtain ⟨o2, m2⟩ := hone_of y2 2 g2 rfl
  obtain ⟨A0, n0, cc0, zz0, rfl, gg0⟩ := field_ints2 (v := c2) q0 ub cb (by simpa [o0, m0] using g0')
  obtain ⟨A1, n1, cc1, zz1, rfl, gg1⟩ := field_ints2 (v := c3) q1 ub cb (by simpa [o1, m1] using g1')
  obtain ⟨A2, n3, cc2, zz2, rfl, gg2⟩ := field_ints2 (v := c4) q2 ub cb (by simpa [o2, m2] using g2')
  obtain ⟨A, n, c, es, rfl, v1, v2, v3, v4, v5⟩ := field_iib u3 x3 y3 k3 s0 s1 s2 h3
  exact ⟨rA, rn, rc, rz, mA, mn, mc, pcs, ⟨A0, n0, cc0, zz0⟩, ⟨A1, n1, cc1, zz1⟩, ⟨A2, n3, cc2, zz2⟩, A, n, c, es, t0.1, t1.1, t2.1, t3.1, rfl, hx.1, i1, i3, i4, i5, j1, j2, j3, gg0, gg1, gg2, v1, v2, v3, v4, v5⟩
end
end Go.Proofs.YtleofglnlfpoeaaGreat
