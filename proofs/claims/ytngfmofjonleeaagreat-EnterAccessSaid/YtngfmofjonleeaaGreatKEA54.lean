/-
  Texts of these proofs, one behind the other: G27, G30.
-/
import Derived.Test.YtngfmofjonleeaaGreatKEA11
import Derived.Test.YtngfmofjonleeaaGreatKEA09
import Derived.Test.YtngfmofjonleeaaGreatKEA40
import Derived.Lib.SmallJoins
namespace Go.Proofs.YtngfmofjonleeaaGreat
open Go.ChangeShapes Go.WideShapes Go.Deep Go.RowKit
set_option linter.unusedVariables false
section
variable {H : Type} {enc : TypeId × Value → H} {P : Program} {w : World} {base : Nat} {r : Reach} {b0 : Nat} {t e ie : TypeId} {v : Value} {d : DataW H} {ps : List MemPlace}
end
end Go.Proofs.YtngfmofjonleeaaGreat
namespace Go.Proofs.YtngfmofjonleeaaGreat
open Go.ChangeShapes Go.WideShapes Go.ChangeAt Go.Deep Go.RowKit
set_option linter.unusedVariables false
set_option linter.unusedSimpArgs false
set_option maxRecDepth 100000
section
variable {H : Type} {enc : TypeId × Value → H} {P : Program} {w : World} {base : Nat} {r : Reach} {b0 : Nat} {t e : TypeId} {v : Value} {d : DataW H} {ps : List MemPlace}
theorem array16 {α : Type} {cs : Array α} (h : cs.size = 16) : ∃ c0 c1 c2 c3 c4 c5 c6 c7 c8 c9 c10 c11 c12 c13 c14 c15, cs = #[c0, c1, c2, c3, c4, c5, c6, c7, c8, c9, c10, c11, c12, c13, c14, c15] := by
  obtain ⟨l⟩ := cs
  match l, h with
  | [c0, c1, c2, c3, c4, c5, c6, c7, c8, c9, c10, c11, c12, c13, c14, c15], _ => exact ⟨c0, c1, c2, c3, c4, c5, c6, c7, c8, c9, c10, c11, c12, c13, c14, c15, rfl⟩
theorem wf_u8 {z : Int} (h : (Lit.int .u8 z).wf = true) : 0 ≤ z ∧ z ≤ 255 := bounds_u8 h
theorem wf_u16 {z : Int} (h : (Lit.int .u16 z).wf = true) : 0 ≤ z ∧ z ≤ 65535 := bounds_u16 h
def stR (a0 a1 a2 a3 a4 a5 a6 a7 a8 a9 a10 a11 a12 a13 a14 : Int) (b : Bool) : Nat → Int
  | 0 => a0 | 1 => a1 | 2 => a2 | 3 => a3 | 4 => a4 | 5 => a5 | 6 => a6 | 7 => a7 | 8 => a8 | 9 => a9 | 10 => a10 | 11 => a11 | 12 => a12 | 13 => a13 | 14 => a14 | _ => if b then 1 else 0
theorem state_value {f0 f1 f2 f3 f4 f5 f6 f7 f8 : Field} (hs : P.underlying t = some (.struct #[f0, f1, f2, f3, f4, f5, f6, f7, f8])) (hC : P.cellsOf t = 16)
    (hl : (f0.offset, P.cellsOf f0.type, f1.offset, P.cellsOf f1.type, f2.offset, P.cellsOf f2.type, f3.offset, P.cellsOf f3.type) = (0, 1, 1, 1, 2, 1, 3, 1))
    (hl2 : (f4.offset, P.cellsOf f4.type, f5.offset, P.cellsOf f5.type, f6.offset, P.cellsOf f6.type, f7.offset, P.cellsOf f7.type, f8.offset, P.cellsOf f8.type) = (4, 1, 5, 1, 6, 8, 14, 1, 15, 1))
    (u0 : P.underlying f0.type = some (.int .u8)) (u1 : P.underlying f1.type = some (.int .u8)) (u2 : P.underlying f2.type = some (.int .u8)) (u3 : P.underlying f3.type = some (.int .u8)) (u4 : P.underlying f4.type = some (.int .u8)) (u5 : P.underlying f5.type = some (.int .u16))
    (u6 : P.underlying f6.type = some (.array 8 e)) (ue : P.underlying e = some (.int .u8)) (ce : P.cellsOf e = 1) (u7 : P.underlying f7.type = some (.int .u8)) (u8 : P.underlying f8.type = some .bool)
    (hval : Value.okWide P w r b0 t v) (hd : DataW.Trod enc P w base (fun _ => true) true t v d ps) :
    ∃ r : Nat → Int, v = .agg (stA r) ∧ StOk r := by
  obtain ⟨cs, rfl, hsz⟩ := okWide_struct hs hval
  obtain ⟨c0, c1, c2, c3, c4, c5, c6, c7, c8, c9, c10, c11, c12, c13, c14, c15, rfl⟩ := array16 (hsz.trans hC)
  obtain ⟨fuel, hf⟩ := hd
  obtain ⟨xs, n, _, _, _, hlen, hfs⟩ := DataW.trod_struct hs hf
  simp only [Prod.mk.injEq] at hl hl2
  obtain ⟨l0, l1, l2, l3, l4, l5, l6, l7⟩ := hl
  obtain ⟨m0, m1, m2, m3, m4, m5, m6, m7, m8, m9⟩ := hl2
  match xs, hlen with
  | [y0, y1, y2, y3, y4, y5, y6, y7, y8], _ =>
    have t0 : DataW.trod enc P w base (fun _ => true) true n f0.type [c0] = some (y0.1, y0.2) := by simpa [Value.cells, l0, l1] using hfs 0 f0 rfl
    have t1 : DataW.trod enc P w base (fun _ => true) true n f1.type [c1] = some (y1.1, y1.2) := by simpa [Value.cells, l2, l3] using hfs 1 f1 rfl
    have t2 : DataW.trod enc P w base (fun _ => true) true n f2.type [c2] = some (y2.1, y2.2) := by simpa [Value.cells, l4, l5] using hfs 2 f2 rfl
    have t3 : DataW.trod enc P w base (fun _ => true) true n f3.type [c3] = some (y3.1, y3.2) := by simpa [Value.cells, l6, l7] using hfs 3 f3 rfl
    have t4 : DataW.trod enc P w base (fun _ => true) true n f4.type [c4] = some (y4.1, y4.2) := by simpa [Value.cells, m0, m1] using hfs 4 f4 rfl
    have t5 : DataW.trod enc P w base (fun _ => true) true n f5.type [c5] = some (y5.1, y5.2) := by simpa [Value.cells, m2, m3] using hfs 5 f5 rfl
    have t6 : DataW.trod enc P w base (fun _ => true) true n f6.type [c6, c7, c8, c9, c10, c11, c12, c13] = some (y6.1, y6.2) := by simpa [Value.cells, m4, m5] using hfs 6 f6 rfl
    have t7 : DataW.trod enc P w base (fun _ => true) true n f7.type [c14] = some (y7.1, y7.2) := by simpa [Value.cells, m6, m7] using hfs 7 f7 rfl
    have t8 : DataW.trod enc P w base (fun _ => true) true n f8.type [c15] = some (y8.1, y8.2) := by simpa [Value.cells, m8, m9] using hfs 8 f8 rfl
    obtain ⟨z0, e0, _, w0⟩ := DataW.trod_int u0 t0
    obtain ⟨z1, e1, _, w1⟩ := DataW.trod_int u1 t1
    obtain ⟨z2, e2, _, w2⟩ := DataW.trod_int u2 t2
    obtain ⟨z3, e3, _, w3⟩ := DataW.trod_int u3 t3
    obtain ⟨z4, e4, _, w4⟩ := DataW.trod_int u4 t4
    obtain ⟨z5, e5, _, w5⟩ := DataW.trod_int u5 t5
    obtain ⟨z14, e14, _, w14⟩ := DataW.trod_int u7 t7
    obtain ⟨b, e15, _⟩ := DataW.trod_bool u8 t8
    obtain ⟨ys, n6, _, _, hl6, hx6, hi6⟩ := DataW.trod_array u6 t6
    simp only [List.cons.injEq, and_true] at e0 e1 e2 e3 e4 e5 e14 e15
    subst e0 e1 e2 e3 e4 e5 e14 e15
    match ys, hx6 with
    | [x0, x1, x2, x3, x4, x5, x6, x7], _ =>
      have g0 : DataW.trod enc P w base (fun _ => true) true n6 e [c6] = some (x0.1, x0.2) := by simpa [ce] using hi6 0 (by decide)
      have g1 : DataW.trod enc P w base (fun _ => true) true n6 e [c7] = some (x1.1, x1.2) := by simpa [ce] using hi6 1 (by decide)
      have g2 : DataW.trod enc P w base (fun _ => true) true n6 e [c8] = some (x2.1, x2.2) := by simpa [ce] using hi6 2 (by decide)
      have g3 : DataW.trod enc P w base (fun _ => true) true n6 e [c9] = some (x3.1, x3.2) := by simpa [ce] using hi6 3 (by decide)
      have g4 : DataW.trod enc P w base (fun _ => true) true n6 e [c10] = some (x4.1, x4.2) := by simpa [ce] using hi6 4 (by decide)
      have g5 : DataW.trod enc P w base (fun _ => true) true n6 e [c11] = some (x5.1, x5.2) := by simpa [ce] using hi6 5 (by decide)
      have g6 : DataW.trod enc P w base (fun _ => true) true n6 e [c12] = some (x6.1, x6.2) := by simpa [ce] using hi6 6 (by decide)
      have g7 : DataW.trod enc P w base (fun _ => true) true n6 e [c13] = some (x7.1, x7.2) := by simpa [ce] using hi6 7 (by decide)
      obtain ⟨z6, e6, _, w6⟩ := DataW.trod_int ue g0
      obtain ⟨z7, e7, _, w7⟩ := DataW.trod_int ue g1
      obtain ⟨z8, e8, _, w8⟩ := DataW.trod_int ue g2
      obtain ⟨z9, e9, _, w9⟩ := DataW.trod_int ue g3
      obtain ⟨z10, e10, _, w10⟩ := DataW.trod_int ue g4
      obtain ⟨z11, e11, _, w11⟩ := DataW.trod_int ue g5
      obtain ⟨z12, e12, _, w12⟩ := DataW.trod_int ue g6
      obtain ⟨z13, e13, _, w13⟩ := DataW.trod_int ue g7
      simp only [List.cons.injEq, and_true] at e6 e7 e8 e9 e10 e11 e12 e13
      subst e6 e7 e8 e9 e10 e11 e12 e13
      refine ⟨stR z0 z1 z2 z3 z4 z5 z6 z7 z8 z9 z10 z11 z12 z13 z14 b, by cases b <;> rfl, fun i hi => ?_⟩
      have hb : 0 ≤ (if b then (1 : Int) else 0) ∧ (if b then (1 : Int) else 0) ≤ 1 := by cases b <;> decide
      match i, hi with
      | 0, _ => exact wf_u8 w0
      | 1, _ => exact wf_u8 w1
      | 2, _ => exact wf_u8 w2
      | 3, _ => exact wf_u8 w3
      | 4, _ => exact wf_u8 w4
      | 5, _ => exact wf_u16 w5
      | 6, _ => exact wf_u8 w6
      | 7, _ => exact wf_u8 w7
      | 8, _ => exact wf_u8 w8
      | 9, _ => exact wf_u8 w9
      | 10, _ => exact wf_u8 w10
      | 11, _ => exact wf_u8 w11
      | 12, _ => exact wf_u8 w12
      | 13, _ => exact wf_u8 w13
      | 14, _ => exact wf_u8 w14
      | 15, _ => exact hb
      | k + 16, h => exact absurd h (by omega)
end
end Go.Proofs.YtngfmofjonleeaaGreat
