/-
  Slices of structs whose fields are one cell each: rows that came in, kept, cut, laid anew. Over any program.
-/
import Derived.Test.YtccimkmlbcgekaaDoorG10
import Derived.Test.YtccimkmlbcgekaaDoorG13
namespace Go.Proofs.YtccimkmlbcgekaaDoor
open Go.ChangeShapes Go.WideShapes Go.Deep Go.RowKit
set_option linter.unusedVariables false
/-- The element i of a slice has the cells f i 0 .. f i (m - 1). -/
def FRow (w : World) (m : Nat) (A : Option Addr) (n : Nat) (f : Nat → Nat → Value) : Prop :=
  ∀ i, i < n → ∃ ad : Addr, A = some ad ∧ ad.block < w.heap.size ∧ ∀ j, j < m → w.cell? (ad.add (i * m + j)) = some (f i j)
section
variable {w w' : World} {m : Nat} {A : Option Addr} {n : Nat} {f : Nat → Nat → Value} {L : List Nat}
theorem FRow.keep (h : FRow w m A n f) (hb : Below w.heap.size w w') : FRow w' m A n f := fun i hi => by
  obtain ⟨ad, e, hl, hc⟩ := h i hi
  exact ⟨ad, e, Nat.lt_of_lt_of_le hl hb.size, fun j hj => (hb.cell (by rw [block_of_add]; exact hl)).trans (hc j hj)⟩
theorem FRow.kp (h : FRow w m A n f) (k : Kp L w w') (hA : ∀ ad, A = some ad → ad.block ∉ L) : FRow w' m A n f := fun i hi => by
  obtain ⟨ad, e, hl, hc⟩ := h i hi
  exact ⟨ad, e, Nat.lt_of_lt_of_le hl k.size, fun j hj => (k.cell (by rw [block_of_add]; exact hl) (by rw [block_of_add]; exact hA ad e)).trans (hc j hj)⟩
theorem FRow.kp_ (h : FRow w m A n f) (k : Kp L w w') (hA : ∀ ad, A = some ad → 0 < n → ad.block ∉ L) : FRow w' m A n f := fun i hi => by
  obtain ⟨ad, e, hl, hc⟩ := h i hi
  exact ⟨ad, e, Nat.lt_of_lt_of_le hl k.size, fun j hj => (k.cell (by rw [block_of_add]; exact hl) (by rw [block_of_add]; exact hA ad e (by omega))).trans (hc j hj)⟩
theorem FRow.from_ {s c : Nat} (h : FRow w m A n f) (he : s ≤ n) (hc : n ≤ c) : FRow w m (if c = s then A else A.map (·.add (s * m))) (n - s) (fun i => f (s + i)) := fun i hi => by
  have hne : ¬ c = s := by omega
  obtain ⟨ad, e, hl, hx⟩ := h (s + i) (by omega)
  subst e
  rw [if_neg hne]
  refine ⟨ad.add (s * m), rfl, by rw [block_of_add]; exact hl, fun j hj => ?_⟩
  rw [add_of_add, show s * m + (i * m + j) = (s + i) * m + j by rw [Nat.add_mul]; omega]
  exact hx j hj
theorem FRow.congr {f' : Nat → Nat → Value} (h : FRow w m A n f) (e : ∀ i, i < n → ∀ j, j < m → f' i j = f i j) : FRow w m A n f' := fun i hi => by
  obtain ⟨ad, ea, hl, hc⟩ := h i hi
  exact ⟨ad, ea, hl, fun j hj => by rw [e i hi j hj]; exact hc j hj⟩
theorem FRow.none_ (h : FRow w m A n f) (e : A = none) : n = 0 := by
  rcases Nat.eq_zero_or_pos n with h0 | h0
  · exact h0
  · obtain ⟨_, e', _⟩ := h 0 h0; rw [e] at e'; cases e'
/-- The cells of one element, as a walk spells them. -/
theorem FRow.at_ (h : FRow w m A n f) (i : Nat) (hi : i < n) : ∃ ad : Addr, A = some ad ∧ ad.block < w.heap.size ∧ (∀ _ : 0 < m, w.cell? (ad.add (i * m)) = some (f i 0)) ∧
    (∀ _ : 1 < m, w.cell? ⟨(ad.add (i * m)).block, (ad.add (i * m)).off + 1, none⟩ = some (f i 1)) ∧ (∀ _ : 2 < m, w.cell? ⟨(ad.add (i * m)).block, (ad.add (i * m)).off + 2, none⟩ = some (f i 2)) := by
  obtain ⟨ad, e, hl, hc⟩ := h i hi
  refine ⟨ad, e, hl, fun h0 => hc 0 h0, fun h1 => ?_, fun h2 => ?_⟩
  · have := hc 1 h1; rw [← add_of_add] at this; exact this
  · have := hc 2 h2; rw [← add_of_add] at this; exact this
end
/-- The cells of n elements, one behind the other. -/
def cellsOf_ (m : Nat) (f : Nat → Nat → Value) (n : Nat) : List Value := (List.range (n * m)).map fun q => f (q / m) (q % m)
theorem cellsOf_len (m : Nat) (f : Nat → Nat → Value) (n : Nat) : (cellsOf_ m f n).length = n * m := by simp [cellsOf_]
theorem cellsOf_at (m : Nat) (f : Nat → Nat → Value) (n q : Nat) (h : q < n * m) : (cellsOf_ m f n)[q]? = some (f (q / m) (q % m)) := by simp [cellsOf_, h]
theorem cellsOf_one {m : Nat} {f : Nat → Nat → Value} {n : Nat} (h : ∀ i j, i < n → j < m → (f i j).oneCell' = true) : ∀ v ∈ cellsOf_ m f n, v.oneCell' = true := by
  intro v hv
  simp only [cellsOf_, List.mem_map, List.mem_range] at hv
  obtain ⟨q, hq, rfl⟩ := hv
  have hm : 0 < m := by rcases Nat.eq_zero_or_pos m with h0 | h0 <;> simp_all
  exact h _ _ (by rw [Nat.div_lt_iff_lt_mul hm]; exact hq) (Nat.mod_lt _ hm)
section
variable {P : Program} {t e ty : TypeId} {z : Value} {bytes m : Nat}
/-- A row of the call's own, read as a slice of structs. -/
theorem own_frow {w : World} {base n : Nat} {v : Value} {f : Nat → Nat → Value} (hm : 0 < m) (h : w.ownsRow base e m v n (cellsOf_ m f n)) :
    ∃ A cap, v = .slice A n cap ∧ n ≤ cap ∧ cap ≤ maxLen ∧ FRow w m A n f ∧ Typed w A e ∧ (A = none → n = 0 ∧ cap = 0) := by
  rcases h.2 with ⟨rfl, h0⟩ | ⟨g, cap, cur, rfl, hg, hh, hnc, hcm, hcs, hcur⟩
  · subst h0
    exact ⟨none, 0, rfl, Nat.le_refl _, by unfold maxLen; omega, fun i hi => absurd hi (by omega), Typed.none, fun _ => ⟨rfl, rfl⟩⟩
  · refine ⟨some ⟨g, 0, none⟩, cap, rfl, hnc, hcm, fun i hi => ⟨_, rfl, ?_, fun j hj => ?_⟩, fun ad x => by cases x; exact ⟨cur, hh⟩, fun x => (by cases x)⟩
    · rcases Nat.lt_or_ge g w.heap.size with h | h
      · exact h
      · rw [Array.getElem?_eq_none h] at hh; cases hh
    · have hlt : i * m + j < n * m := by
        have : (i + 1) * m ≤ n * m := Nat.mul_le_mul_right m hi
        rw [Nat.add_mul] at this
        omega
      have hx := h.cells rfl (i * m + j) _ (cellsOf_at m f n _ hlt)
      have e1 : (i * m + j) / m = i := by rw [Nat.mul_comm, Nat.mul_add_div hm, Nat.div_eq_of_lt hj]; omega
      have e2 : (i * m + j) % m = j := by rw [Nat.mul_comm, Nat.mul_add_mod, Nat.mod_eq_of_lt hj]
      rw [e1, e2] at hx
      exact hx
/-- Behind a new row of nothing the structs of a slice that came in. -/
theorem clone_frow {w : World} {ad : Addr} {n c : Nat} {f : Nat → Nat → Value} (ht : P.underlying t = some (.slice e)) (hinfo : (P.info? e).map (fun i => (i.zero, i.size, i.bytes)) = some (some z, m, bytes)) (hz : z.cells.size = m) (hm : 0 < m)
    (h1 : ∀ i j, i < n → j < m → (f i j).oneCell' = true) (hb : n * bytes ≤ 140737488355328) (hn : n ≤ maxLen) (R : FRow w m (some ad) n f) :
    ∃ A cap w', (Builtin.append_ #[t, t] ty #[.slice (some ⟨w.heap.size, 0, none⟩) 0 0, .slice (some ad) n c]).run P (w.alloc (.cells #[] e)) = .ok (.slice A n cap) w' ∧
      n ≤ cap ∧ cap ≤ maxLen ∧ FRow w' m A n f ∧ Typed w' A e ∧ (A = none → n = 0 ∧ cap = 0) ∧ Below w.heap.size w w' := by
  obtain ⟨i, hi, hzz⟩ := Option.map_eq_some_iff.1 hinfo
  simp only [Prod.mk.injEq] at hzz
  obtain ⟨hz', hs, hby⟩ := hzz
  have hB0 : Below w.heap.size w (w.alloc (.cells #[] e)) := (Below.refl _ _).alloc (Nat.le_refl _) _
  have R0 := R.keep hB0
  have hown0 : (w.alloc (.cells #[] e)).ownsRow w.heap.size e m (.slice (some ⟨w.heap.size, 0, none⟩) 0 0) 0 [] :=
    ⟨by simp, Or.inr ⟨w.heap.size, 0, #[], rfl, Nat.le_refl _, heap_alloc_new w _, Nat.le_refl _, by unfold maxLen; omega, by simp, by simp⟩⟩
  obtain ⟨v', w', q1, q2, q3, _, _⟩ := run_append_own_at (P := P) (w.alloc (.cells #[] e)) w.heap.size t ty e i z m bytes ht hi hz' hs hby hz hm _ 0 [] hown0 ad n c (cellsOf_ m f n) (cellsOf_len m f n)
    (fun q u hu => by
      have hq : q < n * m := by have := (List.getElem?_eq_some_iff.1 hu).1; rwa [cellsOf_len] at this
      rw [cellsOf_at m f n q hq] at hu
      injection hu with hu
      subst hu
      have hin : q / m < n := by rw [Nat.div_lt_iff_lt_mul hm]; exact hq
      obtain ⟨ae, ea, _, hc⟩ := R0 (q / m) hin
      injection ea with ea
      subst ea
      have := hc (q % m) (Nat.mod_lt _ hm)
      rwa [show q / m * m + q % m = q from Nat.div_add_mod' q m] at this)
    (cellsOf_one h1) (by omega) (by rw [Nat.zero_add]; exact hb) hB0.size
  rw [Nat.zero_add, List.nil_append] at q2
  obtain ⟨A, cap, rfl, p1, p2, p3, p4, p5⟩ := own_frow hm q2
  exact ⟨A, cap, w', q1, p1, p2, p3, p4, p5, hB0.grown q3 hB0.size (fun j e => by simp [Value.ownBlock] at e; omega)⟩
end
/-- An integer and a bool. -/
def ibV (k0 : IntKind) (p : Int × Bool) : Nat → Value | 0 => .int k0 p.1 | _ => .bool p.2
/-- Two integers and a bool. -/
structure Iib where
  a : Int
  b : Int
  c : Bool
def iibV (k0 k1 : IntKind) (p : Iib) : Nat → Value | 0 => .int k0 p.a | 1 => .int k1 p.b | _ => .bool p.c
section
variable {H : Type} {enc : TypeId × Value → H} {P : Program} {w : World} {base : Nat} {r : Reach} {b0 : Nat} {t e : TypeId} {v : Value} {d : DataW H} {ps : List MemPlace} {f0 f1 f2 : Field}
theorem slice_ib {k0 : IntKind} (ht : P.underlying t = some (.slice e)) (he : P.underlying e = some (.struct #[f0, f1])) (hone : oneCellFields P #[f0, f1] = true) (hC : P.cellsOf e = 2)
    (h0 : P.underlying f0.type = some (.int k0)) (h1 : P.underlying f1.type = some .bool)
    (hval : Value.okWide P w r b0 t v) (hd : DataW.Trod enc P w base (fun _ => true) true t v d ps) :
    ∃ (A : Option Addr) (n cap : Nat) (qs : Nat → Int × Bool), v = .slice A n cap ∧ n ≤ cap ∧ cap ≤ maxLen ∧ FRow w 2 A n (fun i => ibV k0 (qs i)) ∧ (∀ i, i < n → (Lit.int k0 (qs i).1).wf = true) := by
  obtain ⟨a0, len, cap, rfl⟩ := okWide_slice ht hval
  obtain ⟨fuel, hf⟩ := hd
  rcases open_slice_fields ht he hone hC hf with ⟨hcs, _⟩ | ⟨a, len', cap', m, D, Pl, hcs, _, hl, hm, hmm, _, hi⟩
  · simp only [Value.cells, List.cons.injEq, Value.slice.injEq, and_true] at hcs
    obtain ⟨rfl, rfl, rfl⟩ := hcs
    exact ⟨none, 0, 0, fun _ => (0, false), rfl, Nat.le_refl _, by unfold maxLen; omega, fun i hi => absurd hi (by omega), fun i hi => absurd hi (by omega)⟩
  · simp only [Value.cells, List.cons.injEq, Value.slice.injEq, and_true] at hcs
    obtain ⟨rfl, rfl, rfl⟩ := hcs
    simp only [if_true] at hmm
    have key : ∀ i, i < len → ∃ p : Int × Bool, w.cell? (a.add (i * 2)) = some (.int k0 p.1) ∧ w.cell? (a.add (i * 2 + 1)) = some (.bool p.2) ∧ (Lit.int k0 p.1).wf = true := fun i hil => by
      obtain ⟨ys, n, _, _, _, hfs⟩ := hi i (by omega)
      obtain ⟨v0, y0, c0, _, t0⟩ := hfs 0 f0 rfl
      obtain ⟨v1, y1, c1, _, t1⟩ := hfs 1 f1 rfl
      obtain ⟨z, e0, _, wz⟩ := DataW.trod_int h0 t0
      obtain ⟨z1, e1, _⟩ := DataW.trod_bool h1 t1
      simp only [List.cons.injEq, and_true] at e0 e1
      subst e0 e1
      exact ⟨(z, z1), c0, c1, wz⟩
    classical
    refine ⟨some a, len, cap, fun i => if h : i < len then Classical.choose (key i h) else (0, false), rfl, hl, hm, fun i hil => ⟨a, rfl, ?_, ?_⟩, fun i hil => ?_⟩
    · have := cell_lt (Classical.choose_spec (key i hil)).1; rwa [block_of_add] at this
    · intro j hj
      have h := Classical.choose_spec (key i hil)
      simp only [dif_pos hil]
      rcases j with _ | _ | j
      · exact h.1
      · exact h.2.1
      · omega
    · simp only [dif_pos hil]; exact (Classical.choose_spec (key i hil)).2.2
theorem slice_iib {k0 k1 : IntKind} (ht : P.underlying t = some (.slice e)) (he : P.underlying e = some (.struct #[f0, f1, f2])) (hone : oneCellFields P #[f0, f1, f2] = true) (hC : P.cellsOf e = 3)
    (h0 : P.underlying f0.type = some (.int k0)) (h1 : P.underlying f1.type = some (.int k1)) (h2 : P.underlying f2.type = some .bool)
    (hval : Value.okWide P w r b0 t v) (hd : DataW.Trod enc P w base (fun _ => true) true t v d ps) :
    ∃ (A : Option Addr) (n cap : Nat) (qs : Nat → Iib), v = .slice A n cap ∧ n ≤ cap ∧ cap ≤ maxLen ∧ FRow w 3 A n (fun i => iibV k0 k1 (qs i)) ∧ (∀ i, i < n → (Lit.int k0 (qs i).a).wf = true ∧ (Lit.int k1 (qs i).b).wf = true) ∧ (A = none → n = 0 ∧ cap = 0) := by
  obtain ⟨a0, len, cap, rfl⟩ := okWide_slice ht hval
  obtain ⟨fuel, hf⟩ := hd
  rcases open_slice_fields ht he hone hC hf with ⟨hcs, _⟩ | ⟨a, len', cap', m, D, Pl, hcs, _, hl, hm, hmm, _, hi⟩
  · simp only [Value.cells, List.cons.injEq, Value.slice.injEq, and_true] at hcs
    obtain ⟨rfl, rfl, rfl⟩ := hcs
    exact ⟨none, 0, 0, fun _ => ⟨0, 0, false⟩, rfl, Nat.le_refl _, by unfold maxLen; omega, fun i hi => absurd hi (by omega), fun i hi => absurd hi (by omega), fun _ => ⟨rfl, rfl⟩⟩
  · simp only [Value.cells, List.cons.injEq, Value.slice.injEq, and_true] at hcs
    obtain ⟨rfl, rfl, rfl⟩ := hcs
    simp only [if_true] at hmm
    have key : ∀ i, i < len → ∃ p : Iib, w.cell? (a.add (i * 3)) = some (.int k0 p.a) ∧ w.cell? (a.add (i * 3 + 1)) = some (.int k1 p.b) ∧ w.cell? (a.add (i * 3 + 2)) = some (.bool p.c) ∧ (Lit.int k0 p.a).wf = true ∧ (Lit.int k1 p.b).wf = true := fun i hil => by
      obtain ⟨ys, n, _, _, _, hfs⟩ := hi i (by omega)
      obtain ⟨v0, y0, c0, _, t0⟩ := hfs 0 f0 rfl
      obtain ⟨v1, y1, c1, _, t1⟩ := hfs 1 f1 rfl
      obtain ⟨v2, y2, c2, _, t2⟩ := hfs 2 f2 rfl
      obtain ⟨z, e0, _, wz⟩ := DataW.trod_int h0 t0
      obtain ⟨z1, e1, _, wz1⟩ := DataW.trod_int h1 t1
      obtain ⟨z2, e2, _⟩ := DataW.trod_bool h2 t2
      simp only [List.cons.injEq, and_true] at e0 e1 e2
      subst e0 e1 e2
      exact ⟨⟨z, z1, z2⟩, c0, c1, c2, wz, wz1⟩
    classical
    refine ⟨some a, len, cap, fun i => if h : i < len then Classical.choose (key i h) else ⟨0, 0, false⟩, rfl, hl, hm, fun i hil => ⟨a, rfl, ?_, ?_⟩, fun i hil => ?_, fun x => by cases x⟩
    · have := cell_lt (Classical.choose_spec (key i hil)).1; rwa [block_of_add] at this
    · intro j hj
      have h := Classical.choose_spec (key i hil)
      simp only [dif_pos hil]
      rcases j with _ | _ | _ | j
      · exact h.1
      · exact h.2.1
      · exact h.2.2.1
      · omega
    · simp only [dif_pos hil]; exact (Classical.choose_spec (key i hil)).2.2.2
end
end Go.Proofs.YtccimkmlbcgekaaDoor
