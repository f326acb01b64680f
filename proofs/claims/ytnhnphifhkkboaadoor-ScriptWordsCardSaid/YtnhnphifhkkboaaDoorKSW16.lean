/-
  Texts of these proofs, one behind the other: G19, Lin0.
-/
import Derived.Test.YtnhnphifhkkboaaDoorKSW12
import Derived.Test.YtnhnphifhkkboaaDoorKSW15
namespace Go.Proofs.YtnhnphifhkkboaaDoor
open Go.ChangeShapes Go.WideShapes Go.Deep Go.RowKit
set_option linter.unusedVariables false
/-- The element i of a slice has the cells f i 0 .. f i (m - 1). -/
def FRow (w : World) (m : Nat) (A : Option Addr) (n : Nat) (f : Nat → Nat → Value) : Prop :=
  ∀ i, i < n → ∃ ad : Addr, A = some ad ∧ ad.block < w.heap.size ∧ ∀ j, j < m → w.cell? (ad.add (i * m + j)) = some (f i j)
section
variable {w w' : World} {m : Nat} {A : Option Addr} {n : Nat} {f : Nat → Nat → Value} {L : List Nat}
theorem FRow.keep (h : FRow w m A n f) (hb : Below w.heap.size w w') : FRow w' m A n f := fun i hi => by
  obtain ⟨ad, e, hl, hc⟩ := h i hi
  exact ⟨ad, e, Nat.lt_of_lt_of_le hl hb.size, fun j hj => (hb.cell (by rw [block_of_add]; exact hl)).trans (hc j hj)⟩
theorem FRow.kp (h : FRow w m A n f) (k : Kp L w w') (hA : ∀ ad, A = some ad → ad.block ∉ L) : FRow w' m A n f := fun i hi => by
  obtain ⟨ad, e, hl, hc⟩ := h i hi
  exact ⟨ad, e, Nat.lt_of_lt_of_le hl k.size, fun j hj => (k.cell (by rw [block_of_add]; exact hl) (by rw [block_of_add]; exact hA ad e)).trans (hc j hj)⟩
theorem FRow.kp_ (h : FRow w m A n f) (k : Kp L w w') (hA : ∀ ad, A = some ad → 0 < n → ad.block ∉ L) : FRow w' m A n f := fun i hi => by
  obtain ⟨ad, e, hl, hc⟩ := h i hi
  exact ⟨ad, e, Nat.lt_of_lt_of_le hl k.size, fun j hj => (k.cell (by rw [block_of_add]; exact hl) (by rw [block_of_add]; exact hA ad e (by omega))).trans (hc j hj)⟩
theorem FRow.from_ {s c : Nat} (h : FRow w m A n f) (he : s ≤ n) (hc : n ≤ c) : FRow w m (if c = s then A else A.map (·.add (s * m))) (n - s) (fun i => f (s + i)) := fun i hi => by
  have hne : ¬ c = s := by omega
  obtain ⟨ad, e, hl, hx⟩ := h (s + i) (by omega)
  subst e
  rw [if_neg hne]
  refine ⟨ad.add (s * m), rfl, by rw [block_of_add]; exact hl, fun j hj => ?_⟩
  rw [add_of_add, show s * m + (i * m + j) = (s + i) * m + j by rw [Nat.add_mul]; omega]
  exact hx j hj
theorem FRow.congr {f' : Nat → Nat → Value} (h : FRow w m A n f) (e : ∀ i, i < n → ∀ j, j < m → f' i j = f i j) : FRow w m A n f' := fun i hi => by
  obtain ⟨ad, ea, hl, hc⟩ := h i hi
  exact ⟨ad, ea, hl, fun j hj => by rw [e i hi j hj]; exact hc j hj⟩
theorem FRow.none_ (h : FRow w m A n f) (e : A = none) : n = 0 := by
  rcases Nat.eq_zero_or_pos n with h0 | h0
  · exact h0
  · obtain ⟨_, e', _⟩ := h 0 h0; rw [e] at e'; cases e'
/-- The cells of one element, as a walk spells them. -/
theorem FRow.at_ (h : FRow w m A n f) (i : Nat) (hi : i < n) : ∃ ad : Addr, A = some ad ∧ ad.block < w.heap.size ∧ (∀ _ : 0 < m, w.cell? (ad.add (i * m)) = some (f i 0)) ∧
    (∀ _ : 1 < m, w.cell? ⟨(ad.add (i * m)).block, (ad.add (i * m)).off + 1, none⟩ = some (f i 1)) ∧ (∀ _ : 2 < m, w.cell? ⟨(ad.add (i * m)).block, (ad.add (i * m)).off + 2, none⟩ = some (f i 2)) := by
  obtain ⟨ad, e, hl, hc⟩ := h i hi
  refine ⟨ad, e, hl, fun h0 => hc 0 h0, fun h1 => ?_, fun h2 => ?_⟩
  · have := hc 1 h1; rw [← add_of_add] at this; exact this
  · have := hc 2 h2; rw [← add_of_add] at this; exact this
end
/-- The cells of n elements, one behind the other. -/
def cellsOf_ (m : Nat) (f : Nat → Nat → Value) (n : Nat) : List Value := (List.range (n * m)).map fun q => f (q / m) (q % m)
theorem cellsOf_len (m : Nat) (f : Nat → Nat → Value) (n : Nat) : (cellsOf_ m f n).length = n * m := by simp [cellsOf_]
theorem cellsOf_at (m : Nat) (f : Nat → Nat → Value) (n q : Nat) (h : q < n * m) : (cellsOf_ m f n)[q]? = some (f (q / m) (q % m)) := by simp [cellsOf_, h]
theorem cellsOf_one {m : Nat} {f : Nat → Nat → Value} {n : Nat} (h : ∀ i j, i < n → j < m → (f i j).oneCell' = true) : ∀ v ∈ cellsOf_ m f n, v.oneCell' = true := by
  intro v hv
  simp only [cellsOf_, List.mem_map, List.mem_range] at hv
  obtain ⟨q, hq, rfl⟩ := hv
  have hm : 0 < m := by rcases Nat.eq_zero_or_pos m with h0 | h0 <;> simp_all
  exact h _ _ (by rw [Nat.div_lt_iff_lt_mul hm]; exact hq) (Nat.mod_lt _ hm)
section
variable {P : Program} {t e ty : TypeId} {z : Value} {bytes m : Nat}
/-- A row of the call's own, read as a slice of structs. -/
theorem own_frow {w : World} {base n : Nat} {v : Value} {f : Nat → Nat → Value} (hm : 0 < m) (h : w.ownsRow base e m v n (cellsOf_ m f n)) :
    ∃ A cap, v = .slice A n cap ∧ n ≤ cap ∧ cap ≤ maxLen ∧ FRow w m A n f ∧ Typed w A e ∧ (A = none → n = 0 ∧ cap = 0) := by
  rcases h.2 with ⟨rfl, h0⟩ | ⟨g, cap, cur, rfl, hg, hh, hnc, hcm, hcs, hcur⟩
  · subst h0
    exact ⟨none, 0, rfl, Nat.le_refl _, by unfold maxLen; omega, fun i hi => absurd hi (by omega), Typed.none, fun _ => ⟨rfl, rfl⟩⟩
  · refine ⟨some ⟨g, 0, none⟩, cap, rfl, hnc, hcm, fun i hi => ⟨_, rfl, ?_, fun j hj => ?_⟩, fun ad x => by cases x; exact ⟨cur, hh⟩, fun x => (by cases x)⟩
    · rcases Nat.lt_or_ge g w.heap.size with h | h
      · exact h
      · rw [Array.getElem?_eq_none h] at hh; cases hh
    · have hlt : i * m + j < n * m := by
        have : (i + 1) * m ≤ n * m := Nat.mul_le_mul_right m hi
        rw [Nat.add_mul] at this
        omega
      have hx := h.cells rfl (i * m + j) _ (cellsOf_at m f n _ hlt)
      have e1 : (i * m + j) / m = i := by rw [Nat.mul_comm, Nat.mul_add_div hm, Nat.div_eq_of_lt hj]; omega
      have e2 : (i * m + j) % m = j := by rw [Nat.mul_comm, Nat.mul_add_mod, Nat.mod_eq_of_lt hj]
      rw [e1, e2] at hx
      exact hx
/-- Behind a new row of nothing the structs of a slice that came in. -/
theorem clone_frow {w : World} {ad : Addr} {n c : Nat} {f : Nat → Nat → Value} (ht : P.underlying t = some (.slice e)) (hinfo : (P.info? e).map (fun i => (i.zero, i.size, i.bytes)) = some (some z, m, bytes)) (hz : z.cells.size = m) (hm : 0 < m)
    (h1 : ∀ i j, i < n → j < m → (f i j).oneCell' = true) (hb : n * bytes ≤ 140737488355328) (hn : n ≤ maxLen) (R : FRow w m (some ad) n f) :
    ∃ A cap w', (Builtin.append_ #[t, t] ty #[.slice (some ⟨w.heap.size, 0, none⟩) 0 0, .slice (some ad) n c]).run P (w.alloc (.cells #[] e)) = .ok (.slice A n cap) w' ∧
      n ≤ cap ∧ cap ≤ maxLen ∧ FRow w' m A n f ∧ Typed w' A e ∧ (A = none → n = 0 ∧ cap = 0) ∧ Below w.heap.size w w' := by
  obtain ⟨i, hi, hzz⟩ := Option.map_eq_some_iff.1 hinfo
  simp only [Prod.mk.injEq] at hzz
  obtain ⟨hz', hs, hby⟩ := hzz
  have hB0 : Below w.heap.size w (w.alloc (.cells #[] e)) := (Below.refl _ _).alloc (Nat.le_refl _) _
  have R0 := R.keep hB0
  have hown0 : (w.alloc (.cells #[] e)).ownsRow w.heap.size e m (.slice (some ⟨w.heap.size, 0, none⟩) 0 0) 0 [] :=
    ⟨by simp, Or.inr ⟨w.heap.size, 0, #[], rfl, Nat.le_refl _, heap_alloc_new w _, Nat.le_refl _, by unfold maxLen; omega, by simp, by simp⟩⟩
  obtain ⟨v', w', q1, q2, q3, _, _⟩ := run_append_own_at (P := P) (w.alloc (.cells #[] e)) w.heap.size t ty e i z m bytes ht hi hz' hs hby hz hm _ 0 [] hown0 ad n c (cellsOf_ m f n) (cellsOf_len m f n)
    (fun q u hu => by
      have hq : q < n * m := by have := (List.getElem?_eq_some_iff.1 hu).1; rwa [cellsOf_len] at this
      rw [cellsOf_at m f n q hq] at hu
      injection hu with hu
      subst hu
      have hin : q / m < n := by rw [Nat.div_lt_iff_lt_mul hm]; exact hq
      obtain ⟨ae, ea, _, hc⟩ := R0 (q / m) hin
      injection ea with ea
      subst ea
      have := hc (q % m) (Nat.mod_lt _ hm)
      rwa [show q / m * m + q % m = q from Nat.div_add_mod' q m] at this)
    (cellsOf_one h1) (by omega) (by rw [Nat.zero_add]; exact hb) hB0.size
  rw [Nat.zero_add, List.nil_append] at q2
  obtain ⟨A, cap, rfl, p1, p2, p3, p4, p5⟩ := own_frow hm q2
  exact ⟨A, cap, w', q1, p1, p2, p3, p4, p5, hB0.grown q3 hB0.size (fun j e => by simp [Value.ownBlock] at e; omega)⟩
end
/-- An integer and a bool. -/
def ibV (k0 : IntKind) (p : Int × Bool) : Nat → Value | 0 => .int k0 p.1 | _ => .bool p.2
/-- Two integers and a bool. -/
structure Iib where
  a : Int
  b : Int
  c : Bool
def iibV (k0 k1 : IntKind) (p : Iib) : Nat → Value | 0 => .int k0 p.a | 1 => .int k1 p.b | _ => .bool p.c
section
variable {H : Type} {enc : TypeId × Value → H} {P : Program} {w : World} {base : Nat} {r : Reach} {b0 : Nat} {t e : TypeId} {v : Value} {d : DataW H} {ps : List MemPlace} {f0 f1 f2 : Field}
theorem slice_ib {k0 : IntKind} (ht : P.underlying t = some (.slice e)) (he : P.underlying e = some (.struct #[f0, f1])) (hone : oneCellFields P #[f0, f1] = true) (hC : P.cellsOf e = 2)
    (h0 : P.underlying f0.type = some (.int k0)) (h1 : P.underlying f1.type = some .bool)
    (hval : Value.okWide P w r b0 t v) (hd : DataW.Trod enc P w base (fun _ => true) true t v d ps) :
    ∃ (A : Option Addr) (n cap : Nat) (qs : Nat → Int × Bool), v = .slice A n cap ∧ n ≤ cap ∧ cap ≤ maxLen ∧ FRow w 2 A n (fun i => ibV k0 (qs i)) ∧ (∀ i, i < n → (Lit.int k0 (qs i).1).wf = true) := by
  obtain ⟨a0, len, cap, rfl⟩ := okWide_slice ht hval
  obtain ⟨fuel, hf⟩ := hd
  rcases open_slice_fields ht he hone hC hf with ⟨hcs, _⟩ | ⟨a, len', cap', m, D, Pl, hcs, _, hl, hm, hmm, _, hi⟩
  · simp only [Value.cells, List.cons.injEq, Value.slice.injEq, and_true] at hcs
    obtain ⟨rfl, rfl, rfl⟩ := hcs
    exact ⟨none, 0, 0, fun _ => (0, false), rfl, Nat.le_refl _, by unfold maxLen; omega, fun i hi => absurd hi (by omega), fun i hi => absurd hi (by omega)⟩
  · simp only [Value.cells, List.cons.injEq, Value.slice.injEq, and_true] at hcs
    obtain ⟨rfl, rfl, rfl⟩ := hcs
    simp only [if_true] at hmm
    have key : ∀ i, i < len → ∃ p : Int × Bool, w.cell? (a.add (i * 2)) = some (.int k0 p.1) ∧ w.cell? (a.add (i * 2 + 1)) = some (.bool p.2) ∧ (Lit.int k0 p.1).wf = true := fun i hil => by
      obtain ⟨ys, n, _, _, _, hfs⟩ := hi i (by omega)
      obtain ⟨v0, y0, c0, _, t0⟩ := hfs 0 f0 rfl
      obtain ⟨v1, y1, c1, _, t1⟩ := hfs 1 f1 rfl
      obtain ⟨z, e0, _, wz⟩ := DataW.trod_int h0 t0
      obtain ⟨z1, e1, _⟩ := DataW.trod_bool h1 t1
      simp only [List.cons.injEq, and_true] at e0 e1
      subst e0 e1
      exact ⟨(z, z1), c0, c1, wz⟩
    classical
    refine ⟨some a, len, cap, fun i => if h : i < len then Classical.choose (key i h) else (0, false), rfl, hl, hm, fun i hil => ⟨a, rfl, ?_, ?_⟩, fun i hil => ?_⟩
    · have := cell_lt (Classical.choose_spec (key i hil)).1; rwa [block_of_add] at this
    · intro j hj
      have h := Classical.choose_spec (key i hil)
      simp only [dif_pos hil]
      rcases j with _ | _ | j
      · exact h.1
      · exact h.2.1
      · omega
    · simp only [dif_pos hil]; exact (Classical.choose_spec (key i hil)).2.2
theorem slice_iib {k0 k1 : IntKind} (ht : P.underlying t = some (.slice e)) (he : P.underlying e = some (.struct #[f0, f1, f2])) (hone : oneCellFields P #[f0, f1, f2] = true) (hC : P.cellsOf e = 3)
    (h0 : P.underlying f0.type = some (.int k0)) (h1 : P.underlying f1.type = some (.int k1)) (h2 : P.underlying f2.type = some .bool)
    (hval : Value.okWide P w r b0 t v) (hd : DataW.Trod enc P w base (fun _ => true) true t v d ps) :
    ∃ (A : Option Addr) (n cap : Nat) (qs : Nat → Iib), v = .slice A n cap ∧ n ≤ cap ∧ cap ≤ maxLen ∧ FRow w 3 A n (fun i => iibV k0 k1 (qs i)) ∧ (∀ i, i < n → (Lit.int k0 (qs i).a).wf = true ∧ (Lit.int k1 (qs i).b).wf = true) ∧ (A = none → n = 0 ∧ cap = 0) := by
  obtain ⟨a0, len, cap, rfl⟩ := okWide_slice ht hval
  obtain ⟨fuel, hf⟩ := hd
  rcases open_slice_fields ht he hone hC hf with ⟨hcs, _⟩ | ⟨a, len', cap', m, D, Pl, hcs, _, hl, hm, hmm, _, hi⟩
  · simp only [Value.cells, List.cons.injEq, Value.slice.injEq, and_true] at hcs
    obtain ⟨rfl, rfl, rfl⟩ := hcs
    exact ⟨none, 0, 0, fun _ => ⟨0, 0, false⟩, rfl, Nat.le_refl _, by unfold maxLen; omega, fun i hi => absurd hi (by omega), fun i hi => absurd hi (by omega), fun _ => ⟨rfl, rfl⟩⟩
  · simp only [Value.cells, List.cons.injEq, Value.slice.injEq, and_true] at hcs
    obtain ⟨rfl, rfl, rfl⟩ := hcs
    simp only [if_true] at hmm
    have key : ∀ i, i < len → ∃ p : Iib, w.cell? (a.add (i * 3)) = some (.int k0 p.a) ∧ w.cell? (a.add (i * 3 + 1)) = some (.int k1 p.b) ∧ w.cell? (a.add (i * 3 + 2)) = some (.bool p.c) ∧ (Lit.int k0 p.a).wf = true ∧ (Lit.int k1 p.b).wf = true := fun i hil => by
      obtain ⟨ys, n, _, _, _, hfs⟩ := hi i (by omega)
      obtain ⟨v0, y0, c0, _, t0⟩ := hfs 0 f0 rfl
      obtain ⟨v1, y1, c1, _, t1⟩ := hfs 1 f1 rfl
      obtain ⟨v2, y2, c2, _, t2⟩ := hfs 2 f2 rfl
      obtain ⟨z, e0, _, wz⟩ := DataW.trod_int h0 t0
      obtain ⟨z1, e1, _, wz1⟩ := DataW.trod_int h1 t1
      obtain ⟨z2, e2, _⟩ := DataW.trod_bool h2 t2
      simp only [List.cons.injEq, and_true] at e0 e1 e2
      subst e0 e1 e2
      exact ⟨⟨z, z1, z2⟩, c0, c1, c2, wz, wz1⟩
    classical
    refine ⟨some a, len, cap, fun i => if h : i < len then Classical.choose (key i h) else ⟨0, 0, false⟩, rfl, hl, hm, fun i hil => ⟨a, rfl, ?_, ?_⟩, fun i hil => ?_, fun x => by cases x⟩
    · have := cell_lt (Classical.choose_spec (key i hil)).1; rwa [block_of_add] at this
    · intro j hj
      have h := Classical.choose_spec (key i hil)
      simp only [dif_pos hil]
      rcases j with _ | _ | _ | j
      · exact h.1
      · exact h.2.1
      · exact h.2.2.1
      · omega
    · simp only [dif_pos hil]; exact (Classical.choose_spec (key i hil)).2.2.2
end
end Go.Proofs.YtnhnphifhkkboaaDoor
namespace Go.Proofs.YtnhnphifhkkboaaDoor
open Go.RowKit
set_option linter.unusedVariables false
/-- Behind the first edges: is that line up? -/
def upTo (es : Nat → Iib) : Nat → Int → Bool
  | 0, _ => false
  | k + 1, l => if (es k).b = l then (es k).c else upTo es k l
def passF (es : Nat → Iib) (n : Nat) (t : Int) : Nat → Nat → Nat
  | 0, s => s
  | f + 1, s => if s < n ∧ (es s).a ≤ t then passF es n t f (s + 1) else s
/-- How many edges went by at a stamp, s of them having gone by ahead. -/
def pass (es : Nat → Iib) (n : Nat) (t : Int) (s : Nat) : Nat := passF es n t (n - s) s
section
variable {es : Nat → Iib} {n : Nat} {t : Int} {s : Nat}
theorem pass_stop (h : n ≤ s ∨ t < (es s).a) : pass es n t s = s := by
  unfold pass
  cases hn : n - s with
  | zero => rfl
  | succ f => simp only [passF]; rw [if_neg (by omega)]
theorem pass_step (h1 : s < n) (h2 : (es s).a ≤ t) : pass es n t s = pass es n t (s + 1) := by
  unfold pass
  rw [show n - s = (n - (s + 1)) + 1 by omega]
  simp only [passF]
  rw [if_pos ⟨h1, h2⟩]
theorem pass_run (k : Nat) (h : ∀ i, i < k → s + i < n ∧ (es (s + i)).a ≤ t) : pass es n t s = pass es n t (s + k) := by
  induction k with
  | zero => rfl
  | succ k ih =>
    rw [ih (fun i hi => h i (by omega)), pass_step (h k (by omega)).1 (h k (by omega)).2]
    rfl
theorem pass_ex (hs : s ≤ n) : ∃ k, pass es n t s = s + k ∧ s + k ≤ n ∧ (∀ i, i < k → (es (s + i)).a ≤ t) ∧ (s + k = n ∨ t < (es (s + k)).a) := by
  obtain ⟨d, hd⟩ : ∃ d, n - s = d := ⟨_, rfl⟩
  induction d generalizing s with
  | zero => exact ⟨0, pass_stop (.inl (by omega)), by omega, fun i hi => absurd hi (by omega), .inl (by omega)⟩
  | succ d ih =>
    by_cases h : (es s).a ≤ t
    · obtain ⟨k, h1, h2, h3, h4⟩ := ih (s := s + 1) (by omega) (by omega)
      refine ⟨k + 1, by rw [pass_step (by omega) h, h1]; omega, by omega, fun i hi => ?_, by rw [show s + (k + 1) = s + 1 + k by omega]; exact h4⟩
      rcases i with _ | i
      · exact h
      · rw [show s + (i + 1) = s + 1 + i by omega]; exact h3 i (by omega)
    · exact ⟨0, pass_stop (.inr (by omega)), by omega, fun i hi => absurd hi (by omega), .inr (by simp; omega)⟩
/-- Gone on from where one stamp led, it is as gone on to the later one of both. -/
theorem pass_two (u : Int) : pass es n u (pass es n t 0) = pass es n (if t < u then u else t) 0 := by
  obtain ⟨k, h1, h2, h3, h4⟩ := pass_ex (es := es) (n := n) (t := t) (s := 0) (Nat.zero_le _)
  rw [Nat.zero_add] at h1 h2 h4
  simp only [Nat.zero_add] at h3
  rw [h1]
  by_cases h : t < u
  · rw [if_pos h]
    have := pass_run (es := es) (n := n) (t := u) (s := 0) k (fun i hi => ⟨by omega, by have := h3 i hi; rw [Nat.zero_add]; omega⟩)
    rw [this, Nat.zero_add]
  · rw [if_neg h, h1]
    exact pass_stop (by omega)
end
/-- What rose, k more edges having gone by behind the first s. -/
def roseTo (es : Nat → Iib) (r : Bool) (s : Nat) : Nat → Bool
  | 0 => r
  | k + 1 => roseTo es r s k || ((es (s + k)).b == 1 && (es (s + k)).c && !upTo es (s + k) 1)
/-- What is wrong with an edge, those ahead of it being right. -/
def badE (es : Nat → Iib) (i : Nat) : Int := if 3 < (es i).b then 8 else if (es i).a < 0 ∨ 26388279066624 < (es i).a ∨ (0 < i ∧ (es i).a < (es (i - 1)).a) then 7 else 0
def prevE (es : Nat → Iib) (k : Nat) : Int := if k = 0 then 0 else (es (k - 1)).a
def wrongI (a b q : Int) : Int := if 4 ≤ b then 8 else if a < q ∨ 26388279066624 < a then 7 else 0
theorem wrong_bad (es : Nat → Iib) (k : Nat) (h : ∀ j, j < k → badE es j = 0) : wrongI (es k).a (es k).b (prevE es k) = badE es k := by
  unfold wrongI badE prevE
  by_cases h1 : 3 < (es k).b
  · rw [if_pos h1, if_pos (by omega)]
  · rw [if_neg h1, if_neg (by omega)]
    by_cases h0 : k = 0
    · subst h0
      rw [if_pos rfl]
      by_cases h2 : (es 0).a < 0 ∨ 26388279066624 < (es 0).a
      · rw [if_pos h2, if_pos (by omega)]
      · rw [if_neg h2, if_neg (by omega)]
    · rw [if_neg h0]
      have hp := h (k - 1) (by omega)
      unfold badE at hp
      have hp' : 0 ≤ (es (k - 1)).a := by
        by_cases q : (es (k - 1)).a < 0
        · by_cases r : 3 < (es (k - 1)).b
          · rw [if_pos r] at hp; omega
          · rw [if_neg r, if_pos (.inl q)] at hp; omega
        · omega
      by_cases h2 : (es k).a < (es (k - 1)).a ∨ 26388279066624 < (es k).a
      · rw [if_pos h2, if_pos (by omega)]
      · rw [if_neg h2, if_neg (by omega)]
theorem badE_cases (es : Nat → Iib) (i : Nat) : badE es i = 0 ∨ badE es i = 7 ∨ badE es i = 8 := by
  unfold badE
  split
  · omega
  · split <;> omega
def chkF (es : Nat → Iib) : Nat → Int × Int
  | 0 => (0, 0)
  | k + 1 => if (chkF es k).1 ≠ 0 then chkF es k else if badE es k ≠ 0 then (badE es k, (k : Int)) else (0, 0)
/-- The first edge that is wrong, and what is. -/
def chk (es : Nat → Iib) (n : Nat) : Int × Int := if 1000 < n then (2, 1000) else chkF es n
theorem chkF_ok {es : Nat → Iib} {k : Nat} (h : ∀ j, j < k → badE es j = 0) : chkF es k = (0, 0) := by
  induction k with
  | zero => rfl
  | succ k ih =>
    simp only [chkF]
    rw [ih (fun j hj => h j (by omega)), h k (by omega)]
    simp
theorem chkF_bad {es : Nat → Iib} {k n : Nat} (h : ∀ j, j < k → badE es j = 0) (hb : badE es k ≠ 0) (hk : k < n) : chkF es n = (badE es k, (k : Int)) := by
  induction n with
  | zero => omega
  | succ n ih =>
    simp only [chkF]
    by_cases e : k = n
    · subst e
      rw [chkF_ok h, if_neg (by simp), if_pos hb]
    · rw [ih (by omega), if_pos hb]
theorem chkF_zero {es : Nat → Iib} {n : Nat} (h : (chkF es n).1 = 0) : ∀ j, j < n → badE es j = 0 := by
  induction n with
  | zero => intro j hj; omega
  | succ n ih =>
    simp only [chkF] at h
    by_cases e : (chkF es n).1 = 0
    · rw [if_neg (by simpa using e)] at h
      intro j hj
      by_cases ej : j = n
      · subst ej
        by_cases hb : badE es j = 0
        · exact hb
        · rw [if_pos hb] at h; exact absurd h hb
      · exact ih e j (by omega)
    · rw [if_pos e] at h; exact absurd h e
theorem chk_zero {es : Nat → Iib} {n : Nat} (h : (chk es n).1 = 0) : n ≤ 1000 ∧ (∀ j, j < n → badE es j = 0) ∧ chk es n = (0, 0) := by
  unfold chk at h ⊢
  by_cases e : 1000 < n
  · rw [if_pos e] at h; exact absurd h (by decide)
  · rw [if_neg e] at h ⊢
    exact ⟨by omega, chkF_zero h, chkF_ok (chkF_zero h)⟩
theorem bad_zero {es : Nat → Iib} {i : Nat} (h : badE es i = 0) : (es i).b ≤ 3 ∧ 0 ≤ (es i).a ∧ (es i).a ≤ 26388279066624 := by
  unfold badE at h
  by_cases h1 : 3 < (es i).b
  · rw [if_pos h1] at h; omega
  · rw [if_neg h1] at h
    by_cases h2 : (es i).a < 0 ∨ 26388279066624 < (es i).a ∨ (0 < i ∧ (es i).a < (es (i - 1)).a)
    · rw [if_pos h2] at h; omega
    · omega
end Go.Proofs.YtnhnphifhkkboaaDoor
