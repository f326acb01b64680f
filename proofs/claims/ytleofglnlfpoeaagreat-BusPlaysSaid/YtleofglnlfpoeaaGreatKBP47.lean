/-
  Texts of these proofs, one behind the other: G15, Fz, Rb18.
-/
import Derived.Test.YtleofglnlfpoeaaGreatKBP44
import Derived.Test.YtleofglnlfpoeaaGreatKBP33
import Derived.Test.YtleofglnlfpoeaaGreatKBP04
import Derived.Test.YtleofglnlfpoeaaGreatKBP05
import Derived.Lib.SmallJoins
import Derived.Test.YtleofglnlfpoeaaGreatKBP46
import Derived.Test.YtleofglnlfpoeaaGreatKBP20
import Derived.Test.YtleofglnlfpoeaaGreatKBP23
import Derived.Test.YtleofglnlfpoeaaGreatKBP31
import Derived.Test.YtleofglnlfpoeaaGreatKBP37
namespace Go.Proofs.YtleofglnlfpoeaaGreat
open Go.ChangeShapes Go.WideShapes Go.ChangeAt Go.RowKit
section
variable {H : Type} {enc : TypeId × Value → H} {P : Program} {w : World} {base : Nat} {r : Reach} {b0 : Nat} {t e : TypeId} {v : Value} {d : DataW H} {ps : List MemPlace}
end
end Go.Proofs.YtleofglnlfpoeaaGreat
namespace Go.Proofs.YtleofglnlfpoeaaGreat
open Go.RowKit
open Go.ChangeShapes Go.WideShapes Go.ChangeAt
open Go.Deep
set_option linter.unusedVariables false
set_option linter.unusedSimpArgs false
set_option maxRecDepth 100000
section
variable {H : Type} {enc : TypeId × Value → H} {P : Program} {w : World} {base : Nat} {r : Reach} {b0 : Nat} {t e : TypeId} {v : Value} {d : DataW H} {ps : List MemPlace}
theorem field_ints2 {t e : TypeId} {k : IntKind} {fuel : Nat} {v : Value} {y : DataW H × List MemPlace} (ht : P.underlying t = some (.slice e)) (he : P.underlying e = some (.int k)) (hc : P.cellsOf e = 1)
    (h : DataW.trod enc P w base (fun _ => true) true fuel t [v] = some y) : ∃ A n cap zs, v = .slice A n cap ∧ n ≤ cap ∧ cap ≤ maxLen ∧ IRow w k A n zs ∧ (A = none → n = 0 ∧ cap = 0) := by
  rcases open_ints ht he hc h with ⟨hcs, _⟩ | ⟨a, len', cap', zs, hcs, _, hl, hm, hz, _, hcell, hwz⟩
  · simp only [List.cons.injEq, and_true] at hcs
    subst hcs
    exact ⟨none, 0, 0, fun _ => 0, rfl, Nat.le_refl _, by unfold maxLen; omega, fun i hi => absurd hi (by omega), fun _ => ⟨rfl, rfl⟩⟩
  · simp only [List.cons.injEq, and_true] at hcs
    subst hcs
    simp only [if_true] at hz
    refine ⟨some a, len', cap', fun i => zs.getD i 0, rfl, hl, hm, fun i hi => ⟨a, rfl, ?_, hcell i (by omega), ?_⟩, fun x => by cases x⟩
    · have := cell_lt (hcell i (by omega)); rwa [block_of_add] at this
    · have hi' : i < zs.length := by omega
      exact hwz _ (by simp [List.getD, List.getElem?_eq_getElem hi'])
/-- Three slices of bytes, by value. -/
structure Fz where
  A : Option Addr
  n : Nat
  c : Nat
  z : Nat → Int
def FzOk (w : World) (p : Fz) : Prop := p.n ≤ p.c ∧ p.c ≤ maxLen ∧ IRow w .u8 p.A p.n p.z ∧ (p.A = none → p.n = 0 ∧ p.c = 0)
end
end Go.Proofs.YtleofglnlfpoeaaGreat
namespace Go.Proofs.YtleofglnlfpoeaaGreat
open Go.RowKit
set_option linter.unusedVariables false
set_option linter.unusedSimpArgs false
theorem bsame_at {w : World} {A5 tA : Option Addr} {c5 tc tl : Nat} {l : List Acc} (h : FRow w 5 A5 l.length (accF l)) (o : w.ownsRow 0 62 5 (.slice tA l.length tc) l.length (accL l)) (e : l.length = tl) (hl : l.length ≤ 1000000) :
    Calls Tryz.prog 15 #[.slice A5 tl c5, .slice tA tl tc] w fun e w' => e = .returned (.bool true) ∧ Below w.heap.size w w' := by
  subst e
  rw [accL_cells] at o
  obtain ⟨A', c', he, -, -, f2, -⟩ := own_frow (by omega) o
  injection he with e1 e2 e3
  subst e1
  exact rsame_any h f2 hl
set_option maxRecDepth 100000 in
set_option maxHeartbeats 64000000 in
theorem busplays_walk {W : World} (rA : Option Addr) (rn rc : Nat) (rz : Nat → Int) (hrn : rn ≤ rc) (hrc : rc ≤ 140737488355328) (RR : IRow W .u8 rA rn rz) (RN : rA = none → rn = 0 ∧ rc = 0)
    (mA : Option Addr) (mn mc : Nat) (ps : Nat → Pc) (hmn : mn ≤ mc) (hmc : mc ≤ maxLen) (RM : PRow W mA mn ps)
    (p q s : Fz) (P : FzOk W p) (Q : FzOk W q) (S : FzOk W s) (A : Option Addr) (n c : Nat) (es : Nat → Iib) (hnc : n ≤ c) (hm : c ≤ maxLen) (RE : FRow W 3 A n (fun i => iibV .i64 .u8 (es i))) (FE : ∀ i, i < n → (Lit.int .i64 (es i).a).wf = true ∧ (Lit.int .u8 (es i).b).wf = true) (NE : A = none → n = 0 ∧ c = 0) (bu : Int) (wbu : (Lit.int .i64 bu).wf = true) (A2 : Option Addr) (n2 c2 : Nat) (q2 : Nat → Nat → Value) (hnc2 : n2 ≤ c2) (hm2 : c2 ≤ maxLen) (R2 : FRow W 4 A2 n2 q2) (F2 : StepsB n2 q2) (A3 : Option Addr) (n3 c3 : Nat) (q3 : Nat → Nat → Value) (hnc3 : n3 ≤ c3) (hm3 : c3 ≤ maxLen) (R3 : FRow W 4 A3 n3 q3) (F3 : StepsB n3 q3) :
    Calls Tryz.prog 3 #[.agg #[.slice rA rn rc, .slice mA mn mc, .slice p.A p.n p.c, .slice q.A q.n q.c, .slice s.A s.n s.c, .slice A n c], .int .i64 bu, .slice A2 n2 c2, .slice A3 n3 c3] W fun e w' => e = .returned (.bool true) ∧ Below W.heap.size W w' := by
  unfold maxLen at hm hm2 hm3 hmc
  obtain ⟨hb0, hb1⟩ := bounds_i64 wbu
  obtain ⟨P1, P2, P3, P4⟩ := P
  obtain ⟨Q1, Q2, Q3, Q4⟩ := Q
  obtain ⟨S1, S2, S3, S4⟩ := S
  unfold maxLen at P2 Q2 S2
  have HRN := Lib.hid RN
  have HP4 := Lib.hid P4
  have HQ4 := Lib.hid Q4
  have HU4 := Lib.hid S4
  have HFE := Lib.hid FE
  have HNE := Lib.hid NE
  have HF2 : Hid (StepsB n2 q2) := Lib.hid F2
  have HF3 : Hid (StepsB n3 q3) := Lib.hid F3
  have HP3 := Lib.hid P3
  have HQ3 := Lib.hid Q3
  have HU3 := Lib.hid S3
  have HRE := Lib.hid RE
  have HR2 := Lib.hid R2
  have HR3 := Lib.hid R3
  have HRR := Lib.hid RR
  have HRM := Lib.hid RM
  clear P3 Q3 S3 P4 Q4 S4 RE FE NE R2 F2 R3 F3 RR RN RM wbu
  go_enter Tryz.func3, Tryz.ntmps3
  go_wp2_with fail
  have FB := Lib.hid (Blk.new W 28 #[.slice rA rn rc, .slice mA mn mc, .slice p.A p.n p.c, .slice q.A q.n q.c, .slice s.A s.n s.c, .slice A n c])
  have HBW := Lib.hid ((Below.refl W.heap.size W).alloc (Nat.le_refl _) (.cells #[.slice rA rn rc, .slice mA mn mc, .slice p.A p.n p.c, .slice q.A q.n q.c, .slice s.A s.n s.c, .slice A n c] 28))
  generalize World.alloc W _ = w0 at *
  refine (live19 _).mono ?_
  rintro e w1 ⟨rfl, b1⟩
  replace HBW := Lib.hid (HBW.out.trans (b1.mono HBW.out.size))
  replace FB := Lib.hid (FB.out.below b1 FB.out.lt)
  have hWlt : W.heap.size < w1.heap.size := FB.out.lt
  replace HP3 := Lib.hid (IRow.keep HP3.out HBW.out)
  replace HQ3 := Lib.hid (IRow.keep HQ3.out HBW.out)
  replace HU3 := Lib.hid (IRow.keep HU3.out HBW.out)
  replace HRR := Lib.hid (IRow.keep HRR.out HBW.out)
  replace HRE := Lib.hid (FRow.keep HRE.out HBW.out)
  replace HR2 := Lib.hid (FRow.keep HR2.out HBW.out)
  replace HR3 := Lib.hid (FRow.keep HR3.out HBW.out)
  replace HRM := Lib.hid (PRow.keep HRM.out HBW.out)
  have HB := Lib.hid (Below.refl w1.heap.size w1)
  clear b1
  go_upto_region 3 with fail
  by_cases ja : 100 < n2
  · have da : decide ((100 : Int) < (n2 : Int)) = true := decide_eq_true (by omega)
    have k0 : w1.cell? ⟨W.heap.size, 0, none⟩ = some (.slice rA rn rc) := FB.out.cell 0
    have k1 : w1.cell? ⟨W.heap.size, 1, none⟩ = some (.slice mA mn mc) := FB.out.cell 1
    have k2 : w1.cell? ⟨W.heap.size, 2, none⟩ = some (.slice p.A p.n p.c) := FB.out.cell 2
    have k3 : w1.cell? ⟨W.heap.size, 3, none⟩ = some (.slice q.A q.n q.c) := FB.out.cell 3
    have k4 : w1.cell? ⟨W.heap.size, 4, none⟩ = some (.slice s.A s.n s.c) := FB.out.cell 4
    have k5 : w1.cell? ⟨W.heap.size, 5, none⟩ = some (.slice A n c) := FB.out.cell 5
    skip
    go_wp2_with fail
    go_ret
    exact ⟨rfl, HBW.out.trans (HB.out.mono (Nat.le_of_lt hWlt))⟩
  by_cases jb : 100 < n3
  · have da : decide ((100 : Int) < (n2 : Int)) = false := decide_eq_false (by omega)
    have db : decide ((100 : Int) < (n3 : Int)) = true := decide_eq_true (by omega)
    have k0 : w1.cell? ⟨W.heap.size, 0, none⟩ = some (.slice rA rn rc) := FB.out.cell 0
    have k1 : w1.cell? ⟨W.heap.size, 1, none⟩ = some (.slice mA mn mc) := FB.out.cell 1
    have k2 : w1.cell? ⟨W.heap.size, 2, none⟩ = some (.slice p.A p.n p.c) := FB.out.cell 2
    have k3 : w1.cell? ⟨W.heap.size, 3, none⟩ = some (.slice q.A q.n q.c) := FB.out.cell 3
    have k4 : w1.cell? ⟨W.heap.size, 4, none⟩ = some (.slice s.A s.n s.c) := FB.out.cell 4
    have k5 : w1.cell? ⟨W.heap.size, 5, none⟩ = some (.slice A n c) := FB.out.cell 5
    skip
    go_wp2_with fail
    go_ret
    exact ⟨rfl, HBW.out.trans (HB.out.mono (Nat.le_of_lt hWlt))⟩
  by_cases jc : 20 < mn
  · have da : decide ((100 : Int) < (n2 : Int)) = false := decide_eq_false (by omega)
    have db : decide ((100 : Int) < (n3 : Int)) = false := decide_eq_false (by omega)
    have dc : decide ((20 : Int) < (mn : Int)) = true := decide_eq_true (by omega)
    have k0 : w1.cell? ⟨W.heap.size, 0, none⟩ = some (.slice rA rn rc) := FB.out.cell 0
    have k1 : w1.cell? ⟨W.heap.size, 1, none⟩ = some (.slice mA mn mc) := FB.out.cell 1
    have k2 : w1.cell? ⟨W.heap.size, 2, none⟩ = some (.slice p.A p.n p.c) := FB.out.cell 2
    have k3 : w1.cell? ⟨W.heap.size, 3, none⟩ = some (.slice q.A q.n q.c) := FB.out.cell 3
    have k4 : w1.cell? ⟨W.heap.size, 4, none⟩ = some (.slice s.A s.n s.c) := FB.out.cell 4
    have k5 : w1.cell? ⟨W.heap.size, 5, none⟩ = some (.slice A n c) := FB.out.cell 5
    skip
    go_wp2_with fail
    go_ret
    exact ⟨rfl, HBW.out.trans (HB.out.mono (Nat.le_of_lt hWlt))⟩
  have da : decide ((100 : Int) < (n2 : Int)) = false := decide_eq_false (by omega)
  have db : decide ((100 : Int) < (n3 : Int)) = false := decide_eq_false (by omega)
  have dc : decide ((20 : Int) < (mn : Int)) = false := decide_eq_false (by omega)
  have k0 : w1.cell? ⟨W.heap.size, 0, none⟩ = some (.slice rA rn rc) := FB.out.cell 0
  have k1 : w1.cell? ⟨W.heap.size, 1, none⟩ = some (.slice mA mn mc) := FB.out.cell 1
  have k2 : w1.cell? ⟨W.heap.size, 2, none⟩ = some (.slice p.A p.n p.c) := FB.out.cell 2
  have k3 : w1.cell? ⟨W.heap.size, 3, none⟩ = some (.slice q.A q.n q.c) := FB.out.cell 3
  have k4 : w1.cell? ⟨W.heap.size, 4, none⟩ = some (.slice s.A s.n s.c) := FB.out.cell 4
  have k5 : w1.cell? ⟨W.heap.size, 5, none⟩ = some (.slice A n c) := FB.out.cell 5
  go_upto_region 5 with fail
  by_cases hl : 10000 < p.n ∨ 10000 < q.n ∨ 10000 < s.n
  · go_wp2_with fail
    refine (hnew_long (by omega) (by omega) (by omega) hl).mono ?_
    rintro e w2 ⟨rfl, b2⟩
    have hsz := HB.out.size
    replace HB := Lib.hid (HB.out.trans (b2.mono hsz))
    replace FB := Lib.hid (FB.out.below b2 FB.out.lt)
    clear b2 hsz
    go_upto_region 6 with fail
    have hsz := HB.out.size
    have X1 := Lib.hid (Blk.new w2 34 #[.int .i64 2, .int .i64 0])
    replace HB := Lib.hid (HB.out.alloc hsz (.cells #[.int .i64 2, .int .i64 0] 34))
    replace FB := Lib.hid (FB.out.alloc (.cells #[.int .i64 2, .int .i64 0] 34))
    clear hsz k0 k1 k2 k3 k4 k5
    generalize w2.heap.size = gX1 at *
    generalize World.alloc w2 _ = w3 at *
    have k0 : w3.cell? ⟨W.heap.size, 0, none⟩ = some (.slice rA rn rc) := FB.out.cell 0
    have k1 : w3.cell? ⟨W.heap.size, 1, none⟩ = some (.slice mA mn mc) := FB.out.cell 1
    have k2 : w3.cell? ⟨W.heap.size, 2, none⟩ = some (.slice p.A p.n p.c) := FB.out.cell 2
    have k3 : w3.cell? ⟨W.heap.size, 3, none⟩ = some (.slice q.A q.n q.c) := FB.out.cell 3
    have k4 : w3.cell? ⟨W.heap.size, 4, none⟩ = some (.slice s.A s.n s.c) := FB.out.cell 4
    have k5 : w3.cell? ⟨W.heap.size, 5, none⟩ = some (.slice A n c) := FB.out.cell 5
    go_wp2_with fail
    refine (rhnew_long (by omega) (by omega) (by omega) hl).mono ?_
    rintro e w4 ⟨rfl, b4⟩
    have hsz := HB.out.size
    replace HB := Lib.hid (HB.out.trans (b4.mono hsz))
    replace FB := Lib.hid (FB.out.below b4 FB.out.lt)
    replace X1 := Lib.hid (X1.out.below b4 X1.out.lt)
    clear b4 hsz
    go_upto_region 7 with fail
    have hX := X1.out.lt
    have Y1 := Lib.hid (X1.out.alloc (.cells #[.int .i64 2, .int .i64 0] 34))
    clear X1 hX
    have hsz := HB.out.size
    have X2 := Lib.hid (Blk.new w4 34 #[.int .i64 2, .int .i64 0])
    replace HB := Lib.hid (HB.out.alloc hsz (.cells #[.int .i64 2, .int .i64 0] 34))
    replace FB := Lib.hid (FB.out.alloc (.cells #[.int .i64 2, .int .i64 0] 34))
    clear hsz k0 k1 k2 k3 k4 k5
    generalize w4.heap.size = gX2 at *
    generalize World.alloc w4 _ = w5 at *
    have x0 : w5.cell? ⟨gX1, 0, none⟩ = some (.int .i64 2) := Y1.out.cell 0
    have x1 : w5.cell? ⟨gX1, 1, none⟩ = some (.int .i64 0) := Y1.out.cell 1
    have y0 : w5.cell? ⟨gX2, 0, none⟩ = some (.int .i64 2) := X2.out.cell 0
    have y1 : w5.cell? ⟨gX2, 1, none⟩ = some (.int .i64 0) := X2.out.cell 1
    go_wp2_with fail
    go_ret
    exact ⟨rfl, HBW.out.trans (HB.out.mono (Nat.le_of_lt hWlt))⟩
  by_cases hk : ¬ (chk es n).1 = 0
  · obtain ⟨⟨a, b⟩, hab⟩ : ∃ r, chk es n = r := ⟨_, rfl⟩
    have HAB := Lib.hid hab
    have na : (a != a) = false := by simp
    have nb : (b != b) = false := by simp
    have HNK : Hid ((chk es n).1 ≠ 0) := Lib.hid hk
    clear hab hk
    go_wp2_with fail
    refine (hnew_bad (FRow.keep HRE.out HB.out) hl (by omega) HNK.out).mono ?_
    rw [HAB.out]
    rintro e w2 ⟨rfl, b2⟩
    have hsz := HB.out.size
    replace HB := Lib.hid (HB.out.trans (b2.mono hsz))
    replace FB := Lib.hid (FB.out.below b2 FB.out.lt)
    clear b2 hsz
    go_upto_region 6 with fail
    have hsz := HB.out.size
    have X1 := Lib.hid (Blk.new w2 34 #[.int .i64 a, .int .i64 b])
    replace HB := Lib.hid (HB.out.alloc hsz (.cells #[.int .i64 a, .int .i64 b] 34))
    replace FB := Lib.hid (FB.out.alloc (.cells #[.int .i64 a, .int .i64 b] 34))
    clear hsz k0 k1 k2 k3 k4 k5
    generalize w2.heap.size = gX1 at *
    generalize World.alloc w2 _ = w3 at *
    have k0 : w3.cell? ⟨W.heap.size, 0, none⟩ = some (.slice rA rn rc) := FB.out.cell 0
    have k1 : w3.cell? ⟨W.heap.size, 1, none⟩ = some (.slice mA mn mc) := FB.out.cell 1
    have k2 : w3.cell? ⟨W.heap.size, 2, none⟩ = some (.slice p.A p.n p.c) := FB.out.cell 2
    have k3 : w3.cell? ⟨W.heap.size, 3, none⟩ = some (.slice q.A q.n q.c) := FB.out.cell 3
    have k4 : w3.cell? ⟨W.heap.size, 4, none⟩ = some (.slice s.A s.n s.c) := FB.out.cell 4
    have k5 : w3.cell? ⟨W.heap.size, 5, none⟩ = some (.slice A n c) := FB.out.cell 5
    go_wp2_with fail
    refine (rhnew_bad (FRow.keep HRE.out HB.out) hl (by omega) HNK.out).mono ?_
    rw [HAB.out]
    rintro e w4 ⟨rfl, b4⟩
    have hsz := HB.out.size
    replace HB := Lib.hid (HB.out.trans (b4.mono hsz))
    replace FB := Lib.hid (FB.out.below b4 FB.out.lt)
    replace X1 := Lib.hid (X1.out.below b4 X1.out.lt)
    clear b4 hsz
    go_upto_region 7 with fail
    have hX := X1.out.lt
    have Y1 := Lib.hid (X1.out.alloc (.cells #[.int .i64 a, .int .i64 b] 34))
    clear X1 hX
    have hsz := HB.out.size
    have X2 := Lib.hid (Blk.new w4 34 #[.int .i64 a, .int .i64 b])
    replace HB := Lib.hid (HB.out.alloc hsz (.cells #[.int .i64 a, .int .i64 b] 34))
    replace FB := Lib.hid (FB.out.alloc (.cells #[.int .i64 a, .int .i64 b] 34))
    clear hsz k0 k1 k2 k3 k4 k5
    generalize w4.heap.size = gX2 at *
    generalize World.alloc w4 _ = w5 at *
    have x0 : w5.cell? ⟨gX1, 0, none⟩ = some (.int .i64 a) := Y1.out.cell 0
    have x1 : w5.cell? ⟨gX1, 1, none⟩ = some (.int .i64 b) := Y1.out.cell 1
    have y0 : w5.cell? ⟨gX2, 0, none⟩ = some (.int .i64 a) := X2.out.cell 0
    have y1 : w5.cell? ⟨gX2, 1, none⟩ = some (.int .i64 b) := X2.out.cell 1
    go_wp2_with fail
    go_ret
    exact ⟨rfl, HBW.out.trans (HB.out.mono (Nat.le_of_lt hWlt))⟩
  replace hk := Decidable.not_not.1 hk
  obtain ⟨gq1, gq2, _⟩ := chk_zero hk
  have GD : Hid (Good n es) := Lib.hid ⟨gq1, gq2, fun j hj => (bounds_u8 (HFE.out j hj).2).1⟩
  have HK := Lib.hid hk
  have HCC : Hid (HC w1 ⟨n, es, p.n, p.z, q.n, q.z, s.n, s.z⟩ ⟨p.A, p.c, q.A, q.c, s.A, s.c, A, c⟩) := Lib.hid ⟨⟨HP3.out, HQ3.out, HU3.out, HRE.out⟩, by dsimp only; omega⟩
  clear hk gq2
  go_wp2_with fail
  refine (hnew_yes HP4.out HQ4.out HU4.out HNE.out (IRow.keep HP3.out HB.out) (IRow.keep HQ3.out HB.out) (IRow.keep HU3.out HB.out) (FRow.keep HRE.out HB.out) hl (by omega) HK.out GD.out).mono ?_
  rintro e w2 ⟨g, b, rfl, hg, h2, b2⟩
  have hsz := HB.out.size
  replace HB := Lib.hid (HB.out.trans (b2.mono hsz))
  replace FB := Lib.hid (FB.out.below b2 FB.out.lt)
  have H2 := Lib.hid h2
  have HGL : Hid (∀ y ∈ [g, b.v, b.c, b.p], w1.heap.size ≤ y) := Lib.hid fun y hy => by
    simp only [List.mem_cons, List.not_mem_nil, or_false] at hy
    rcases hy with rfl | rfl | rfl | rfl <;> omega
  clear b2 hsz h2 hg
  go_upto_region 6 with fail
  replace H2 := Lib.hid (H2.out.keep ((Below.refl w2.heap.size w2).alloc (Nat.le_refl _) (.cells #[.int .i64 0, .int .i64 0] 34)))
  have hsz := HB.out.size
  have X1 := Lib.hid (Blk.new w2 34 #[.int .i64 0, .int .i64 0])
  replace HB := Lib.hid (HB.out.alloc hsz (.cells #[.int .i64 0, .int .i64 0] 34))
  replace FB := Lib.hid (FB.out.alloc (.cells #[.int .i64 0, .int .i64 0] 34))
  clear hsz k0 k1 k2 k3 k4 k5
  generalize w2.heap.size = gX1 at *
  generalize World.alloc w2 _ = w3 at *
  have k0 : w3.cell? ⟨W.heap.size, 0, none⟩ = some (.slice rA rn rc) := FB.out.cell 0
  have k1 : w3.cell? ⟨W.heap.size, 1, none⟩ = some (.slice mA mn mc) := FB.out.cell 1
  have k2 : w3.cell? ⟨W.heap.size, 2, none⟩ = some (.slice p.A p.n p.c) := FB.out.cell 2
  have k3 : w3.cell? ⟨W.heap.size, 3, none⟩ = some (.slice q.A q.n q.c) := FB.out.cell 3
  have k4 : w3.cell? ⟨W.heap.size, 4, none⟩ = some (.slice s.A s.n s.c) := FB.out.cell 4
  have k5 : w3.cell? ⟨W.heap.size, 5, none⟩ = some (.slice A n c) := FB.out.cell 5
  go_wp2_with fail
  refine (rhnew_yes (z1 := p.z) (z2 := q.z) (z3 := s.z) (FRow.keep HRE.out HB.out) hl (by omega) HK.out).mono ?_
  rintro e w4 ⟨r, J, rfl, hr, h4, b4⟩
  have HAP : Hid (∀ y ∈ [g, b.v, b.c, b.p], y ∉ J.all r) := Lib.hid fun y hy hy2 => by
    obtain ⟨a1, a2, a3, a4⟩ := H2.out.lt
    have := hr y hy2
    simp only [List.mem_cons, List.not_mem_nil, or_false] at hy
    rcases hy with rfl | rfl | rfl | rfl <;> omega
  have hW : w1.heap.size ≤ w3.heap.size := HB.out.size
  have hsz := HB.out.size
  replace HB := Lib.hid (HB.out.trans (b4.mono hsz))
  replace FB := Lib.hid (FB.out.below b4 FB.out.lt)
  replace H2 := Lib.hid (H2.out.keep b4)
  replace X1 := Lib.hid (X1.out.below b4 X1.out.lt)
  have R4 := Lib.hid h4
  have HRL : Hid (∀ y ∈ J.all r, w1.heap.size ≤ y) := Lib.hid fun y hy => Nat.le_trans hW (hr y hy)
  clear b4 hsz h4 hr hW
  go_upto_region 7 with fail
  replace H2 := Lib.hid (H2.out.keep ((Below.refl w4.heap.size w4).alloc (Nat.le_refl _) (.cells #[.int .i64 0, .int .i64 0] 34)))
  replace R4 := Lib.hid (R4.out.keep ((Below.refl w4.heap.size w4).alloc (Nat.le_refl _) (.cells #[.int .i64 0, .int .i64 0] 34)))
  have Y1 := Lib.hid (X1.out.alloc (.cells #[.int .i64 0, .int .i64 0] 34))
  clear X1
  have hsz := HB.out.size
  have X2 := Lib.hid (Blk.new w4 34 #[.int .i64 0, .int .i64 0])
  replace HB := Lib.hid (HB.out.alloc hsz (.cells #[.int .i64 0, .int .i64 0] 34))
  replace FB := Lib.hid (FB.out.alloc (.cells #[.int .i64 0, .int .i64 0] 34))
  clear hsz k0 k1 k2 k3 k4 k5
  generalize w4.heap.size = gX2 at *
  generalize World.alloc w4 _ = w5 at *
  have x0 : w5.cell? ⟨gX1, 0, none⟩ = some (.int .i64 0) := Y1.out.cell 0
  have x1 : w5.cell? ⟨gX1, 1, none⟩ = some (.int .i64 0) := Y1.out.cell 1
  have y0 : w5.cell? ⟨gX2, 0, none⟩ = some (.int .i64 0) := X2.out.cell 0
  have y1 : w5.cell? ⟨gX2, 1, none⟩ = some (.int .i64 0) := X2.out.cell 1
  have k0 : w5.cell? ⟨W.heap.size, 0, none⟩ = some (.slice rA rn rc) := FB.out.cell 0
  have k1 : w5.cell? ⟨W.heap.size, 1, none⟩ = some (.slice mA mn mc) := FB.out.cell 1
  have k2 : w5.cell? ⟨W.heap.size, 2, none⟩ = some (.slice p.A p.n p.c) := FB.out.cell 2
  have k3 : w5.cell? ⟨W.heap.size, 3, none⟩ = some (.slice q.A q.n q.c) := FB.out.cell 3
  have k4 : w5.cell? ⟨W.heap.size, 4, none⟩ = some (.slice s.A s.n s.c) := FB.out.cell 4
  have k5 : w5.cell? ⟨W.heap.size, 5, none⟩ = some (.slice A n c) := FB.out.cell 5
  go_wp2_with fail
  refine (bnew_any H2.out HRN.out (by omega) (IRow.keep HRR.out HB.out) bu).mono ?_
  rintro e w6 ⟨gB, mB, rv, rfl, hg6, hm6, hb6, b6⟩
  have H25 := H2
  have R45 := R4
  have HS5 := Lib.hid HB.out.size
  have HG6 := Lib.hid hg6
  have HM6 := Lib.hid hm6
  have HB6 := Lib.hid hb6
  have hsz := HB.out.size
  replace HB := Lib.hid (HB.out.trans (b6.mono hsz))
  replace FB := Lib.hid (FB.out.below b6 FB.out.lt)
  replace R4 := Lib.hid (R4.out.keep b6)
  clear b6 hsz hg6 hm6 hb6 x0 x1 y0 y1 X2 Y1 k0 k1 k2 k3 k4 k5
  have k0 : w6.cell? ⟨W.heap.size, 0, none⟩ = some (.slice rA rn rc) := FB.out.cell 0
  have k1 : w6.cell? ⟨W.heap.size, 1, none⟩ = some (.slice mA mn mc) := FB.out.cell 1
  have k2 : w6.cell? ⟨W.heap.size, 2, none⟩ = some (.slice p.A p.n p.c) := FB.out.cell 2
  have k3 : w6.cell? ⟨W.heap.size, 3, none⟩ = some (.slice q.A q.n q.c) := FB.out.cell 3
  have k4 : w6.cell? ⟨W.heap.size, 4, none⟩ = some (.slice s.A s.n s.c) := FB.out.cell 4
  have k5 : w6.cell? ⟨W.heap.size, 5, none⟩ = some (.slice A n c) := FB.out.cell 5
  go_wp2_with fail
  refine (rbnew_any (W := w1) R4.out HB.out HRL.out HRR.out ⟨hrn, by unfold maxLen; omega⟩ rv hb0 hb1).mono ?_
  rintro e w7 ⟨gR, rfl, hn7⟩
  obtain ⟨Q, x7, hQZ, b7⟩ := bx_new (W := w1) H25.out R45.out HGL.out HAP.out HS5.out HG6.out HM6.out HB6.out hn7
  have HCQ : Hid (HC w1 ⟨n, es, p.n, p.z, q.n, q.z, s.n, s.z⟩ Q.Z) := Lib.hid (hQZ ▸ HCC.out)
  have FIT : Hid ((Bs.new rv rn rz Hp.new bu).fit 0) := Lib.hid ⟨room_new, fun _ => rfl⟩
  obtain ⟨t0, ht0⟩ : ∃ t0, Bs.new rv rn rz Hp.new bu = t0 := ⟨_, rfl⟩
  rw [ht0] at x7 FIT
  replace FB := Lib.hid (FB.out.below b7 FB.out.lt)
  have X7 := Lib.hid (x7.kp0 (Kp.refl [] w7).drew)
  obtain ⟨P, hP⟩ : ∃ P, (⟨mB, none, g, b, .slice none 0 0⟩ : Bp) = P := ⟨_, rfl⟩
  rw [hP] at X7
  have k1' : w7.drew.cell? ⟨W.heap.size, 1, none⟩ = some (.slice mA mn mc) := FB.out.cell 1
  have NW : Hid (W.heap.size ∉ bxL gB P gR Q) := Lib.hid fun hy => by
    rcases List.mem_append.1 hy with h | h
    · have := X7.out.lo _ h; omega
    · have := X7.out.rb.new _ h; omega
  clear x7 hQZ b7 hn7 ht0 hP H25 R45 HGL HAP HRL HS5 HG6 HM6 HB6 H2 R4 HCC k0 k1 k2 k3 k4 k5
  go_wp2_with fail
  rcases first_badR mn ps with hg | ⟨j, hj, hg, hb⟩
  · have HGD := Lib.hid hg
    clear hg
    refine rg_begin (S := fun w' => w'.cell? ⟨W.heap.size, 1, none⟩ = some (.slice mA mn mc)) 16 #[false, false, false, false, false, false, false, false, false, false, false, false, false, false, false, false] (by kernel_rfl) (by kernel_rfl) (by kernel_rfl) ?_ (fun hHeld => ?_)
    · exact k1'
    refine rgt 0 (some 73) (v := ?_) rfl ?_ ?_
    rotate_left 1
    · (intro wS hSw; (try dsimp only at hSw); go_simp; try with_reducible rfl)
    refine rgt 1 (some 74) (v := ?_) rfl ?_ ?_
    rotate_left 1
    · (intro wS hSw; (try dsimp only at hSw); go_simp; try with_reducible rfl)
    refine rgt 2 (some 75) (v := ?_) rfl ?_ ?_
    rotate_left 1
    · (intro wS hSw; (try dsimp only at hSw); go_simp; try with_reducible rfl)
    refine rgt 4 (some 77) (v := ?_) rfl ?_ ?_
    rotate_left 1
    · (intro wS hSw; (try dsimp only at hSw); go_simp; try with_reducible rfl)
    refine rgt 5 (some 78) (v := ?_) rfl ?_ ?_
    rotate_left 1
    · (intro wS hSw; (try dsimp only at hSw); go_simp; try with_reducible rfl)
    refine rgt 6 (some 79) (v := ?_) rfl ?_ ?_
    rotate_left 1
    · (intro wS hSw; (try dsimp only at hSw); go_simp; try with_reducible rfl)
    try simp only [Act.put, List.setIfInBounds_toArray, List.set_cons_zero, List.set_cons_succ]
    refine rg_next (i := 3) (l := #[true, true, true, true, true, true, true, false, false, false, false, false, false, false, false, false]) (fuel := 9) (by kernel_rfl) rfl (by kernel_rfl) (by kernel_rfl) (fun K hK => ?_)
    go_simp
    (go_at_call 9)
    refine (bfill_good (W := w1) X7.out.bu X7.out.rb.old X7.out.lo HRM.out (by omega) HGD.out).mono ?_
    rintro e w8 ⟨P8, he, a8⟩
    subst he
    have A8 : Hid (BuR (.agg #[.int .i64 0, .int .i64 0]) gB ⟨n, es, p.n, p.z, q.n, q.z, s.n, s.z⟩ P { t0 with f := flt t0.f ps mn } w7.drew (.returned (.agg #[.int .i64 0, .int .i64 0])) w8) := Lib.hid ⟨P8, rfl, a8⟩
    have R8 := Lib.hid (X7.out.ref1 a8.2.1)
    have F8 := Lib.hid ((FB.out.drew_).kp a8.2.1 (fun h => NW.out (List.mem_append.2 (.inl h))))
    clear a8 k1'
    have k1' : w8.cell? ⟨W.heap.size, 1, none⟩ = some (.slice mA mn mc) := F8.out.cell 1
    first | (refine hK.out _ _ ?_ (fun hHeld => ?_)) | (go_wp2_with fail; refine hK.out _ _ ?_ (fun hHeld => ?_))
    · (try dsimp only); exact k1'
    clear hK K
    try simp only [Act.put, List.setIfInBounds_toArray, List.set_cons_zero, List.set_cons_succ]
    refine rg_next (i := 7) (l := #[true, true, true, true, true, true, true, true, false, false, false, false, false, false, false, false]) (fuel := 8) (by kernel_rfl) rfl (by kernel_rfl) (by kernel_rfl) (fun K hK => ?_)
    go_simp
    (go_at_call 10)
    refine (rbfill_good R8.out HRM.out (by omega) HGD.out).mono ?_
    rintro e w9 ⟨t9, he, a9⟩
    subst he
    obtain ⟨P9, t9', nx9, x9, k9, -⟩ := BX.both (v2 := (.agg #[.int .i64 0, .int .i64 0])) (e2 := .returned (.agg #[.int .i64 0, .int .i64 0])) X7.out A8.out ⟨t9, rfl, a9⟩
    have F9 := Lib.hid ((FB.out.drew_).kp k9 NW.out)
    have X9 := Lib.hid x9
    clear a9 k9 x9 k1' A8 R8 F8 X7
    have k1' : w9.cell? ⟨W.heap.size, 1, none⟩ = some (.slice mA mn mc) := F9.out.cell 1
    first | (refine hK.out _ _ ?_ (fun hHeld => ?_)) | (go_wp2_with fail; refine hK.out _ _ ?_ (fun hHeld => ?_))
    · (try dsimp only); exact k1'
    clear hK K
    refine rgt 8 (some 81) (v := .bool false) rfl ?_ ?_
    · (intro wS hSw; (try dsimp only at hSw); (go_simp; try with_reducible rfl))
    refine rgt 9 (some 82) (v := ?_) rfl ?_ ?_
    rotate_left 1
    · (intro wS hSw; (try dsimp only at hSw); go_simp; try with_reducible rfl)
    refine rgt 10 (some 83) (v := ?_) rfl ?_ ?_
    rotate_left 1
    · (intro wS hSw; (try dsimp only at hSw); go_simp; try with_reducible rfl)
    refine rgt 11 (some 84) (v := ?_) rfl ?_ ?_
    rotate_left 1
    · (intro wS hSw; (try dsimp only at hSw); go_simp; try with_reducible rfl)
    refine rgt 12 (some 85) (v := ?_) rfl ?_ ?_
    rotate_left 1
    · (intro wS hSw; (try dsimp only at hSw); go_simp; try with_reducible rfl)
    try simp only [Act.put, List.setIfInBounds_toArray, List.set_cons_zero, List.set_cons_succ]
    refine rg_next (i := 13) (l := #[true, true, true, true, true, true, true, true, true, true, true, true, true, true, false, false]) (fuel := 2) (by kernel_rfl) rfl (by kernel_rfl) (by kernel_rfl) (fun K hK => ?_)
    go_simp
    (go_at_call 11)
    refine (bplay_any (K := 0) X9.out HCQ.out HR2.out HF2.out (by omega) (by exact FIT.out) (by omega)).mono ?_
    rintro e w10 ⟨rfl, sP, ⟨P10, t10, nx10, x10, k10, -⟩, f10⟩
    have FA := Lib.hid (F9.out.kp k10 (fun hy => (List.mem_append.1 hy).elim (fun h => by have := X9.out.lo _ h; omega) (fun h => by have := X9.out.rb.new _ h; omega)))
    have X10 := Lib.hid x10
    have FITA := Lib.hid f10
    clear k10 x10 f10 k1' X9
    have k1' : w10.cell? ⟨W.heap.size, 1, none⟩ = some (.slice mA mn mc) := FA.out.cell 1
    first | (refine hK.out _ _ ?_ (fun hHeld => ?_)) | (go_wp2_with fail; refine hK.out _ _ ?_ (fun hHeld => ?_))
    · (try dsimp only); exact k1'
    clear hK K
    refine rgt 14 (some 87) (v := ?_) rfl ?_ ?_
    rotate_left 1
    · (intro wS hSw; (try dsimp only at hSw); go_simp; try with_reducible rfl)
    refine rgt 15 (some 88) (v := ?_) rfl ?_ ?_
    rotate_left 1
    · (intro wS hSw; (try dsimp only at hSw); go_simp; try with_reducible rfl)
    try simp only [Act.put, List.setIfInBounds_toArray, List.set_cons_zero, List.set_cons_succ]
    refine wpAnyH_done (by kernel_rfl) ?_ _
    clear k1' FA FB FIT F9 NW
    have hl10 : sP.tl.length ≤ 1000000 := by have := FITA.out.1.2.2.2; omega
    go_wp2_with fail
    refine (bclone_any X10.out.bu HCQ.out.nn hl10).mono ?_
    rintro e w11 ⟨g2, P2, rfl, c1, c2, c3, c4⟩
    have C1 := Lib.hid c1
    have C2 := Lib.hid c2
    have C3 := Lib.hid c3
    have C4 := Lib.hid c4
    clear c1 c2 c3 c4
    go_wp2_with fail
    refine (rbcopy_any (X10.out.ref1 C3.out) C2.out.ok.2.2.2.2 hl10).mono ?_
    rintro e w12 ⟨r2, Q2, rfl, d1, d2, d3, d4, d5⟩
    obtain ⟨o1, o2, o3, o4⟩ := bx_copied X10.out X10.out.rb.old.size C1.out C2.out C3.out C4.out d1 d2 d3 d4
    have HC2 : Hid (HC w1 ⟨n, es, p.n, p.z, q.n, q.z, s.n, s.z⟩ Q2.Z) := Lib.hid (d5.symm ▸ HCQ.out)
    have ho := o1.rb.tr
    rw [accL_cells] at ho
    obtain ⟨tA, tc, htv, -⟩ := own_frow (by omega) ho
    have htv : t10 = .slice tA sP.tl.length tc := htv
    subst htv
    have O1 := Lib.hid (o1.kp0 (Kp.refl [] w12).drew)
    have O2 := Lib.hid (o2.kp0 (Kp.refl [] w12).drew)
    have O3 := Lib.hid o3
    have O4 := Lib.hid o4
    have c6 : w12.drew.cell? ⟨gR, 6, none⟩ = some (.slice tA sP.tl.length tc) := O1.out.rb.cells.2.2.2.2.2.2
    have HL10 := Lib.hid hl10
    clear o1 o2 o3 o4 d1 d2 d3 d4 d5 C1 C2 C3 C4 ho hl10 X10
    obtain ⟨tl, htl⟩ : ∃ k, sP.tl.length = k := ⟨_, rfl⟩
    have HTL := Lib.hid htl
    rw [htl] at c6
    clear htl
    go_wp2_with fail
    refine rg_begin (S := fun w' => w'.cell? ⟨gR, 6, none⟩ = some (.slice tA tl tc)) 19 #[false, false, false, false, false, false, false, false, false, false, false, false, false, false, false, false, false, false, false] (by kernel_rfl) (by kernel_rfl) (by kernel_rfl) ?_ (fun hHeld => ?_)
    · exact c6
    refine rgt 0 (some 93) (v := ?_) rfl ?_ ?_
    rotate_left 1
    · (intro wS hSw; (try dsimp only at hSw); go_simp; try with_reducible rfl)
    refine rgt 1 (some 94) (v := ?_) rfl ?_ ?_
    rotate_left 1
    · (intro wS hSw; (try dsimp only at hSw); go_simp; try with_reducible rfl)
    refine rgt 2 (some 95) (v := ?_) rfl ?_ ?_
    rotate_left 1
    · (intro wS hSw; (try dsimp only at hSw); go_simp; try with_reducible rfl)
    try simp only [Act.put, List.setIfInBounds_toArray, List.set_cons_zero, List.set_cons_succ]
    refine rg_next (i := 3) (l := #[true, true, true, true, false, false, false, false, false, false, false, false, false, false, false, false, false, false, false]) (fuel := 15) (by kernel_rfl) rfl (by kernel_rfl) (by kernel_rfl) (fun K hK => ?_)
    go_simp
    (go_at_call 11)
    refine (bplay_any (K := 0 + n2) O2.out HC2.out HR3.out HF3.out (by omega) FITA.out (by omega)).mono ?_
    rintro e w13 ⟨rfl, sQ, ⟨P13, t13, nx13, x13, k13, -⟩, -⟩
    have X13 := Lib.hid (O1.out.kpD O2.out O3.out O4.out k13)
    clear x13 k13 c6 O1 O2
    have c6 : w13.cell? ⟨gR, 6, none⟩ = some (.slice tA tl tc) := HTL.out ▸ X13.out.rb.cells.2.2.2.2.2.2
    first | (refine hK.out _ _ ?_ (fun hHeld => ?_)) | (go_wp2_with fail; refine hK.out _ _ ?_ (fun hHeld => ?_))
    · (try dsimp only); exact c6
    clear hK K
    refine rgt 4 (some 97) (v := ?_) rfl ?_ ?_
    rotate_left 1
    · (intro wS hSw; (try dsimp only at hSw); go_simp; try with_reducible rfl)
    refine rgt 5 (some 98) (v := ?_) rfl ?_ ?_
    rotate_left 1
    · (intro wS hSw; (try dsimp only at hSw); go_simp; try with_reducible rfl)
    refine rgt 6 (some 99) (v := ?_) rfl ?_ ?_
    rotate_left 1
    · (intro wS hSw; (try dsimp only at hSw); go_simp; try with_reducible rfl)
    try simp only [Act.put, List.setIfInBounds_toArray, List.set_cons_zero, List.set_cons_succ]
    refine rg_next (i := 7) (l := #[true, true, true, true, true, true, true, true, false, false, false, false, false, false, false, false, false, false, false]) (fuel := 11) (by kernel_rfl) rfl (by kernel_rfl) (by kernel_rfl) (fun K hK => ?_)
    go_simp
    (go_at_call 14)
    refine (alike_any st_ok X13.out HCQ.out false).mono ?_
    rintro e w14 ⟨rfl, b14⟩
    have X14 := Lib.hid (X13.out.on b14)
    clear b14 c6 X13
    have c6 : w14.cell? ⟨gR, 6, none⟩ = some (.slice tA tl tc) := HTL.out ▸ X14.out.rb.cells.2.2.2.2.2.2
    first | (refine hK.out _ _ ?_ (fun hHeld => ?_)) | (go_wp2_with fail; refine hK.out _ _ ?_ (fun hHeld => ?_))
    · (try dsimp only); exact c6
    clear hK K
    refine rgt 8 (some 101) (v := ?_) rfl ?_ ?_
    rotate_left 1
    · (intro wS hSw; (try dsimp only at hSw); go_simp; try with_reducible rfl)
    refine rgt 9 (some 102) (v := ?_) rfl ?_ ?_
    rotate_left 1
    · (intro wS hSw; (try dsimp only at hSw); go_simp; try with_reducible rfl)
    refine rgt 10 (some 103) (v := ?_) rfl ?_ ?_
    rotate_left 1
    · (intro wS hSw; (try dsimp only at hSw); go_simp; try with_reducible rfl)
    refine rgt 12 (some 105) (v := ?_) rfl ?_ ?_
    rotate_left 1
    · (intro wS hSw; (try dsimp only at hSw); go_simp; try with_reducible rfl)
    refine rgt 13 (some 106) (v := ?_) rfl ?_ ?_
    rotate_left 1
    · (intro wS hSw; (try dsimp only at hSw); go_simp; try with_reducible rfl)
    refine rgt 14 (some 107) (v := ?_) rfl ?_ ?_
    rotate_left 1
    · (intro wS hSw; (try dsimp only at hSw); go_simp; try with_reducible rfl)
    refine rgt 15 (some 108) (v := ?_) rfl ?_ ?_
    rotate_left 1
    · (intro wS hSw; (try dsimp only at hSw); go_simp; try with_reducible rfl)
    try simp only [Act.put, List.setIfInBounds_toArray, List.set_cons_zero, List.set_cons_succ]
    refine rg_next (i := 11) (l := #[true, true, true, true, true, true, true, true, true, true, true, true, true, true, true, true, false, false, false]) (fuel := 3) (by kernel_rfl) rfl (by kernel_rfl) (by kernel_rfl) (fun K hK => ?_)
    go_simp
    (go_at_call 16)
    refine (btrace_any X14.out.bu HL10.out).mono ?_
    rintro e w15 ⟨A5, c5, rfl, -, -, f5, -, -, b15⟩
    have X15 := Lib.hid (X14.out.on b15)
    have F5 := Lib.hid f5
    clear b15 f5 c6 X14
    rw [HTL.out]
    have c6 : w15.cell? ⟨gR, 6, none⟩ = some (.slice tA tl tc) := HTL.out ▸ X15.out.rb.cells.2.2.2.2.2.2
    first | (refine hK.out _ _ ?_ (fun hHeld => ?_)) | (go_wp2_with fail; refine hK.out _ _ ?_ (fun hHeld => ?_))
    · (try dsimp only); exact c6
    clear hK K
    try simp only [Act.put, List.setIfInBounds_toArray, List.set_cons_zero, List.set_cons_succ]
    refine rg_next (i := 16) (l := #[true, true, true, true, true, true, true, true, true, true, true, true, true, true, true, true, true, false, false]) (fuel := 2) (by kernel_rfl) rfl (by kernel_rfl) (by kernel_rfl) (fun K hK => ?_)
    go_simp
    (go_at_call 15)
    refine (bsame_at F5.out X15.out.rb.tr HTL.out HL10.out).mono ?_
    rintro e w16 ⟨rfl, b16⟩
    have X16 := Lib.hid (X15.out.on b16)
    clear b16 c6 X15
    have c6 : w16.cell? ⟨gR, 6, none⟩ = some (.slice tA tl tc) := HTL.out ▸ X16.out.rb.cells.2.2.2.2.2.2
    first | (refine hK.out _ _ ?_ (fun hHeld => ?_)) | (go_wp2_with fail; refine hK.out _ _ ?_ (fun hHeld => ?_))
    · (try dsimp only); exact c6
    clear hK K
    refine rgt 17 (some 110) (v := ?_) rfl ?_ ?_
    rotate_left 1
    · (intro wS hSw; (try dsimp only at hSw); go_simp; try with_reducible rfl)
    refine rgt 18 (some 8) (v := ?_) rfl ?_ ?_
    rotate_left 1
    · (intro wS hSw; (try dsimp only at hSw); go_simp; try with_reducible rfl)
    try simp only [Act.put, List.setIfInBounds_toArray, List.set_cons_zero, List.set_cons_succ]
    refine wpAnyH_done (by kernel_rfl) ?_ _
    go_wp2_with fail
    go_ret
    exact ⟨rfl, HBW.out.trans (X16.out.rb.old.mono (Nat.le_of_lt hWlt))⟩
  · have HGD := Lib.hid hg
    have HBD := Lib.hid hb
    have nb : ((j : Int) != (j : Int)) = false := by simp
    clear hg hb
    refine rg_begin (S := fun w' => w'.cell? ⟨W.heap.size, 1, none⟩ = some (.slice mA mn mc)) 16 #[false, false, false, false, false, false, false, false, false, false, false, false, false, false, false, false] (by kernel_rfl) (by kernel_rfl) (by kernel_rfl) ?_ (fun hHeld => ?_)
    · exact k1'
    refine rgt 0 (some 73) (v := ?_) rfl ?_ ?_
    rotate_left 1
    · (intro wS hSw; (try dsimp only at hSw); go_simp; try with_reducible rfl)
    refine rgt 1 (some 74) (v := ?_) rfl ?_ ?_
    rotate_left 1
    · (intro wS hSw; (try dsimp only at hSw); go_simp; try with_reducible rfl)
    refine rgt 2 (some 75) (v := ?_) rfl ?_ ?_
    rotate_left 1
    · (intro wS hSw; (try dsimp only at hSw); go_simp; try with_reducible rfl)
    refine rgt 4 (some 77) (v := ?_) rfl ?_ ?_
    rotate_left 1
    · (intro wS hSw; (try dsimp only at hSw); go_simp; try with_reducible rfl)
    refine rgt 5 (some 78) (v := ?_) rfl ?_ ?_
    rotate_left 1
    · (intro wS hSw; (try dsimp only at hSw); go_simp; try with_reducible rfl)
    refine rgt 6 (some 79) (v := ?_) rfl ?_ ?_
    rotate_left 1
    · (intro wS hSw; (try dsimp only at hSw); go_simp; try with_reducible rfl)
    try simp only [Act.put, List.setIfInBounds_toArray, List.set_cons_zero, List.set_cons_succ]
    refine rg_next (i := 3) (l := #[true, true, true, true, true, true, true, false, false, false, false, false, false, false, false, false]) (fuel := 9) (by kernel_rfl) rfl (by kernel_rfl) (by kernel_rfl) (fun K hK => ?_)
    go_simp
    (go_at_call 9)
    refine (bfill_bad (W := w1) X7.out.bu X7.out.rb.old X7.out.lo HRM.out (by omega) hj HGD.out HBD.out).mono ?_
    rintro e w8 ⟨P8, he, a8⟩
    subst he
    have A8 : Hid (BuR (.agg #[.int .i64 1, .int .i64 j]) gB ⟨n, es, p.n, p.z, q.n, q.z, s.n, s.z⟩ P t0 w7.drew (.returned (.agg #[.int .i64 1, .int .i64 j])) w8) := Lib.hid ⟨P8, rfl, a8⟩
    have R8 := Lib.hid (X7.out.ref1 a8.2.1)
    have F8 := Lib.hid ((FB.out.drew_).kp a8.2.1 (fun h => NW.out (List.mem_append.2 (.inl h))))
    clear a8 k1'
    have k1' : w8.cell? ⟨W.heap.size, 1, none⟩ = some (.slice mA mn mc) := F8.out.cell 1
    first | (refine hK.out _ _ ?_ (fun hHeld => ?_)) | (go_wp2_with fail; refine hK.out _ _ ?_ (fun hHeld => ?_))
    · (try dsimp only); exact k1'
    clear hK K
    try simp only [Act.put, List.setIfInBounds_toArray, List.set_cons_zero, List.set_cons_succ]
    refine rg_next (i := 7) (l := #[true, true, true, true, true, true, true, true, false, false, false, false, false, false, false, false]) (fuel := 8) (by kernel_rfl) rfl (by kernel_rfl) (by kernel_rfl) (fun K hK => ?_)
    go_simp
    (go_at_call 10)
    refine (rbfill_bad R8.out HRM.out (by omega) hj HGD.out HBD.out).mono ?_
    rintro e w9 ⟨t9, he, a9⟩
    subst he
    obtain ⟨P9, t9', nx9, x9, k9, -⟩ := BX.both (v2 := (.agg #[.int .i64 1, .int .i64 j])) (e2 := .returned (.agg #[.int .i64 1, .int .i64 j])) X7.out A8.out ⟨t9, rfl, a9⟩
    have F9 := Lib.hid ((FB.out.drew_).kp k9 NW.out)
    have X9 := Lib.hid x9
    clear a9 k9 x9 k1' A8 R8 F8 X7
    have k1' : w9.cell? ⟨W.heap.size, 1, none⟩ = some (.slice mA mn mc) := F9.out.cell 1
    first | (refine hK.out _ _ ?_ (fun hHeld => ?_)) | (go_wp2_with fail; refine hK.out _ _ ?_ (fun hHeld => ?_))
    · (try dsimp only); exact k1'
    clear hK K
    refine rgt 8 (some 81) (v := .bool false) rfl ?_ ?_
    · (intro wS hSw; (try dsimp only at hSw); (go_simp; try with_reducible rfl))
    refine rgt 9 (some 82) (v := ?_) rfl ?_ ?_
    rotate_left 1
    · (intro wS hSw; (try dsimp only at hSw); go_simp; try with_reducible rfl)
    refine rgt 10 (some 83) (v := ?_) rfl ?_ ?_
    rotate_left 1
    · (intro wS hSw; (try dsimp only at hSw); go_simp; try with_reducible rfl)
    refine rgt 11 (some 84) (v := ?_) rfl ?_ ?_
    rotate_left 1
    · (intro wS hSw; (try dsimp only at hSw); go_simp; try with_reducible rfl)
    refine rgt 12 (some 85) (v := ?_) rfl ?_ ?_
    rotate_left 1
    · (intro wS hSw; (try dsimp only at hSw); go_simp; try with_reducible rfl)
    try simp only [Act.put, List.setIfInBounds_toArray, List.set_cons_zero, List.set_cons_succ]
    refine rg_next (i := 13) (l := #[true, true, true, true, true, true, true, true, true, true, true, true, true, true, false, false]) (fuel := 2) (by kernel_rfl) rfl (by kernel_rfl) (by kernel_rfl) (fun K hK => ?_)
    go_simp
    (go_at_call 11)
    refine (bplay_any (K := 0) X9.out HCQ.out HR2.out HF2.out (by omega) (by exact FIT.out) (by omega)).mono ?_
    rintro e w10 ⟨rfl, sP, ⟨P10, t10, nx10, x10, k10, -⟩, f10⟩
    have FA := Lib.hid (F9.out.kp k10 (fun hy => (List.mem_append.1 hy).elim (fun h => by have := X9.out.lo _ h; omega) (fun h => by have := X9.out.rb.new _ h; omega)))
    have X10 := Lib.hid x10
    have FITA := Lib.hid f10
    clear k10 x10 f10 k1' X9
    have k1' : w10.cell? ⟨W.heap.size, 1, none⟩ = some (.slice mA mn mc) := FA.out.cell 1
    first | (refine hK.out _ _ ?_ (fun hHeld => ?_)) | (go_wp2_with fail; refine hK.out _ _ ?_ (fun hHeld => ?_))
    · (try dsimp only); exact k1'
    clear hK K
    refine rgt 14 (some 87) (v := ?_) rfl ?_ ?_
    rotate_left 1
    · (intro wS hSw; (try dsimp only at hSw); go_simp; try with_reducible rfl)
    refine rgt 15 (some 88) (v := ?_) rfl ?_ ?_
    rotate_left 1
    · (intro wS hSw; (try dsimp only at hSw); go_simp; try with_reducible rfl)
    try simp only [Act.put, List.setIfInBounds_toArray, List.set_cons_zero, List.set_cons_succ]
    refine wpAnyH_done (by kernel_rfl) ?_ _
    clear k1' FA FB FIT F9 NW
    have hl10 : sP.tl.length ≤ 1000000 := by have := FITA.out.1.2.2.2; omega
    go_wp2_with fail
    refine (bclone_any X10.out.bu HCQ.out.nn hl10).mono ?_
    rintro e w11 ⟨g2, P2, rfl, c1, c2, c3, c4⟩
    have C1 := Lib.hid c1
    have C2 := Lib.hid c2
    have C3 := Lib.hid c3
    have C4 := Lib.hid c4
    clear c1 c2 c3 c4
    go_wp2_with fail
    refine (rbcopy_any (X10.out.ref1 C3.out) C2.out.ok.2.2.2.2 hl10).mono ?_
    rintro e w12 ⟨r2, Q2, rfl, d1, d2, d3, d4, d5⟩
    obtain ⟨o1, o2, o3, o4⟩ := bx_copied X10.out X10.out.rb.old.size C1.out C2.out C3.out C4.out d1 d2 d3 d4
    have HC2 : Hid (HC w1 ⟨n, es, p.n, p.z, q.n, q.z, s.n, s.z⟩ Q2.Z) := Lib.hid (d5.symm ▸ HCQ.out)
    have ho := o1.rb.tr
    rw [accL_cells] at ho
    obtain ⟨tA, tc, htv, -⟩ := own_frow (by omega) ho
    have htv : t10 = .slice tA sP.tl.length tc := htv
    subst htv
    have O1 := Lib.hid (o1.kp0 (Kp.refl [] w12).drew)
    have O2 := Lib.hid (o2.kp0 (Kp.refl [] w12).drew)
    have O3 := Lib.hid o3
    have O4 := Lib.hid o4
    have c6 : w12.drew.cell? ⟨gR, 6, none⟩ = some (.slice tA sP.tl.length tc) := O1.out.rb.cells.2.2.2.2.2.2
    have HL10 := Lib.hid hl10
    clear o1 o2 o3 o4 d1 d2 d3 d4 d5 C1 C2 C3 C4 ho hl10 X10
    obtain ⟨tl, htl⟩ : ∃ k, sP.tl.length = k := ⟨_, rfl⟩
    have HTL := Lib.hid htl
    rw [htl] at c6
    clear htl
    go_wp2_with fail
    refine rg_begin (S := fun w' => w'.cell? ⟨gR, 6, none⟩ = some (.slice tA tl tc)) 19 #[false, false, false, false, false, false, false, false, false, false, false, false, false, false, false, false, false, false, false] (by kernel_rfl) (by kernel_rfl) (by kernel_rfl) ?_ (fun hHeld => ?_)
    · exact c6
    refine rgt 0 (some 93) (v := ?_) rfl ?_ ?_
    rotate_left 1
    · (intro wS hSw; (try dsimp only at hSw); go_simp; try with_reducible rfl)
    refine rgt 1 (some 94) (v := ?_) rfl ?_ ?_
    rotate_left 1
    · (intro wS hSw; (try dsimp only at hSw); go_simp; try with_reducible rfl)
    refine rgt 2 (some 95) (v := ?_) rfl ?_ ?_
    rotate_left 1
    · (intro wS hSw; (try dsimp only at hSw); go_simp; try with_reducible rfl)
    try simp only [Act.put, List.setIfInBounds_toArray, List.set_cons_zero, List.set_cons_succ]
    refine rg_next (i := 3) (l := #[true, true, true, true, false, false, false, false, false, false, false, false, false, false, false, false, false, false, false]) (fuel := 15) (by kernel_rfl) rfl (by kernel_rfl) (by kernel_rfl) (fun K hK => ?_)
    go_simp
    (go_at_call 11)
    refine (bplay_any (K := 0 + n2) O2.out HC2.out HR3.out HF3.out (by omega) FITA.out (by omega)).mono ?_
    rintro e w13 ⟨rfl, sQ, ⟨P13, t13, nx13, x13, k13, -⟩, -⟩
    have X13 := Lib.hid (O1.out.kpD O2.out O3.out O4.out k13)
    clear x13 k13 c6 O1 O2
    have c6 : w13.cell? ⟨gR, 6, none⟩ = some (.slice tA tl tc) := HTL.out ▸ X13.out.rb.cells.2.2.2.2.2.2
    first | (refine hK.out _ _ ?_ (fun hHeld => ?_)) | (go_wp2_with fail; refine hK.out _ _ ?_ (fun hHeld => ?_))
    · (try dsimp only); exact c6
    clear hK K
    refine rgt 4 (some 97) (v := ?_) rfl ?_ ?_
    rotate_left 1
    · (intro wS hSw; (try dsimp only at hSw); go_simp; try with_reducible rfl)
    refine rgt 5 (some 98) (v := ?_) rfl ?_ ?_
    rotate_left 1
    · (intro wS hSw; (try dsimp only at hSw); go_simp; try with_reducible rfl)
    refine rgt 6 (some 99) (v := ?_) rfl ?_ ?_
    rotate_left 1
    · (intro wS hSw; (try dsimp only at hSw); go_simp; try with_reducible rfl)
    try simp only [Act.put, List.setIfInBounds_toArray, List.set_cons_zero, List.set_cons_succ]
    refine rg_next (i := 7) (l := #[true, true, true, true, true, true, true, true, false, false, false, false, false, false, false, false, false, false, false]) (fuel := 11) (by kernel_rfl) rfl (by kernel_rfl) (by kernel_rfl) (fun K hK => ?_)
    go_simp
    (go_at_call 14)
    refine (alike_any st_ok X13.out HCQ.out false).mono ?_
    rintro e w14 ⟨rfl, b14⟩
    have X14 := Lib.hid (X13.out.on b14)
    clear b14 c6 X13
    have c6 : w14.cell? ⟨gR, 6, none⟩ = some (.slice tA tl tc) := HTL.out ▸ X14.out.rb.cells.2.2.2.2.2.2
    first | (refine hK.out _ _ ?_ (fun hHeld => ?_)) | (go_wp2_with fail; refine hK.out _ _ ?_ (fun hHeld => ?_))
    · (try dsimp only); exact c6
    clear hK K
    refine rgt 8 (some 101) (v := ?_) rfl ?_ ?_
    rotate_left 1
    · (intro wS hSw; (try dsimp only at hSw); go_simp; try with_reducible rfl)
    refine rgt 9 (some 102) (v := ?_) rfl ?_ ?_
    rotate_left 1
    · (intro wS hSw; (try dsimp only at hSw); go_simp; try with_reducible rfl)
    refine rgt 10 (some 103) (v := ?_) rfl ?_ ?_
    rotate_left 1
    · (intro wS hSw; (try dsimp only at hSw); go_simp; try with_reducible rfl)
    refine rgt 12 (some 105) (v := ?_) rfl ?_ ?_
    rotate_left 1
    · (intro wS hSw; (try dsimp only at hSw); go_simp; try with_reducible rfl)
    refine rgt 13 (some 106) (v := ?_) rfl ?_ ?_
    rotate_left 1
    · (intro wS hSw; (try dsimp only at hSw); go_simp; try with_reducible rfl)
    refine rgt 14 (some 107) (v := ?_) rfl ?_ ?_
    rotate_left 1
    · (intro wS hSw; (try dsimp only at hSw); go_simp; try with_reducible rfl)
    refine rgt 15 (some 108) (v := ?_) rfl ?_ ?_
    rotate_left 1
    · (intro wS hSw; (try dsimp only at hSw); go_simp; try with_reducible rfl)
    try simp only [Act.put, List.setIfInBounds_toArray, List.set_cons_zero, List.set_cons_succ]
    refine rg_next (i := 11) (l := #[true, true, true, true, true, true, true, true, true, true, true, true, true, true, true, true, false, false, false]) (fuel := 3) (by kernel_rfl) rfl (by kernel_rfl) (by kernel_rfl) (fun K hK => ?_)
    go_simp
    (go_at_call 16)
    refine (btrace_any X14.out.bu HL10.out).mono ?_
    rintro e w15 ⟨A5, c5, rfl, -, -, f5, -, -, b15⟩
    have X15 := Lib.hid (X14.out.on b15)
    have F5 := Lib.hid f5
    clear b15 f5 c6 X14
    rw [HTL.out]
    have c6 : w15.cell? ⟨gR, 6, none⟩ = some (.slice tA tl tc) := HTL.out ▸ X15.out.rb.cells.2.2.2.2.2.2
    first | (refine hK.out _ _ ?_ (fun hHeld => ?_)) | (go_wp2_with fail; refine hK.out _ _ ?_ (fun hHeld => ?_))
    · (try dsimp only); exact c6
    clear hK K
    try simp only [Act.put, List.setIfInBounds_toArray, List.set_cons_zero, List.set_cons_succ]
    refine rg_next (i := 16) (l := #[true, true, true, true, true, true, true, true, true, true, true, true, true, true, true, true, true, false, false]) (fuel := 2) (by kernel_rfl) rfl (by kernel_rfl) (by kernel_rfl) (fun K hK => ?_)
    go_simp
    (go_at_call 15)
    refine (bsame_at F5.out X15.out.rb.tr HTL.out HL10.out).mono ?_
    rintro e w16 ⟨rfl, b16⟩
    have X16 := Lib.hid (X15.out.on b16)
    clear b16 c6 X15
    have c6 : w16.cell? ⟨gR, 6, none⟩ = some (.slice tA tl tc) := HTL.out ▸ X16.out.rb.cells.2.2.2.2.2.2
    first | (refine hK.out _ _ ?_ (fun hHeld => ?_)) | (go_wp2_with fail; refine hK.out _ _ ?_ (fun hHeld => ?_))
    · (try dsimp only); exact c6
    clear hK K
    refine rgt 17 (some 110) (v := ?_) rfl ?_ ?_
    rotate_left 1
    · (intro wS hSw; (try dsimp only at hSw); go_simp; try with_reducible rfl)
    refine rgt 18 (some 8) (v := ?_) rfl ?_ ?_
    rotate_left 1
    · (intro wS hSw; (try dsimp only at hSw); go_simp; try with_reducible rfl)
    try simp only [Act.put, List.setIfInBounds_toArray, List.set_cons_zero, List.set_cons_succ]
    refine wpAnyH_done (by kernel_rfl) ?_ _
    go_wp2_with fail
    go_ret
    exact ⟨rfl, HBW.out.trans (X16.out.rb.old.mono (Nat.le_of_lt hWlt))⟩
end Go.Proofs.YtleofglnlfpoeaaGreat
