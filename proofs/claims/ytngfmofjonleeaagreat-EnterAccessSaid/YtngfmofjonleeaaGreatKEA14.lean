/-
  Texts of these proofs, one behind the other: Lin3, Lin4, Lin5.
-/
import Derived.Test.YtngfmofjonleeaaGreatKEA13
import Derived.FnLit
import Derived.WalkMore
import Derived.Deep.LoopGhost
import Derived.RegionTactic
import Derived.Deep.AppendLies
import Derived.Test.YtngfmofjonleeaaGreatKEA03
namespace Go.Proofs.YtngfmofjonleeaaGreat
open Go.RowKit
set_option linter.unusedVariables false
set_option linter.unusedSimpArgs false
set_option maxRecDepth 100000
theorem edge_info : (Tryz.prog.info? 150).map (fun i => (i.zero, i.size, i.bytes)) = some (some (.agg #[.int .i64 0, .int .u8 0, .bool false]), 3, 16) := by kernel_rfl
def EClR (n : Nat) (es : Nat → Iib) (w : World) (e : Ending) (w' : World) : Prop :=
  ∃ A cap, e = .returned (.slice A n cap) ∧ n ≤ cap ∧ cap ≤ maxLen ∧ ERow w' A n es ∧ Typed w' A 150 ∧ (A = none → n = 0 ∧ cap = 0) ∧ Below w.heap.size w w'
theorem eclone_any {w : World} {A : Option Addr} {n c : Nat} {es : Nat → Iib} (hA : A = none → n = 0 ∧ c = 0) (R : ERow w A n es) (hn : n ≤ 1000) :
    Calls Tryz.prog 59 #[.slice A n c] w (EClR n es w) := by
  cases A with
  | none =>
    obtain ⟨rfl, rfl⟩ := hA rfl
    have hnil := fun W => Lib.run_eql_slice_nil (P := Tryz.prog) W 62 150 none 0 0 0 0 Tryz.underlying62
    clear R hA
    go_enter Tryz.func59, Tryz.ntmps59
    go_wp2
    go_ret
    exact ⟨none, 0, rfl, Nat.le_refl _, by unfold maxLen; omega, fun i hi => absurd hi (by omega), Typed.none, fun _ => ⟨rfl, rfl⟩, Below.refl _ _⟩
  | some ad =>
    have hnil := fun W => Lib.run_eql_slice_nil (P := Tryz.prog) W 62 150 (some ad) n c 0 0 Tryz.underlying62
    obtain ⟨A, cap, w', hrun, h1, h2, h3, h4, h5, h6⟩ := clone_frow (P := Tryz.prog) (ty := 62) (c := c) Tryz.underlying62 edge_info rfl (by omega)
      (fun i j _ hj => by rcases j with _ | _ | _ | j <;> first | rfl | omega) (by omega) (by unfold maxLen; omega) R
    have H3 := Lib.hid h3
    have H5 := Lib.hid h5
    clear h3 h5 R hA
    go_enter Tryz.func59, Tryz.ntmps59
    go_wp2_with (at_builtin; refine wpList_append_run rfl (.tmp 5) (.tmp 6) 62 rfl rfl rfl hrun ?_)
    go_ret
    exact ⟨A, cap, rfl, h1, h2, H3.out, h4, H5.out, h6⟩
end Go.Proofs.YtngfmofjonleeaaGreat
namespace Go.Proofs.YtngfmofjonleeaaGreat
open Go.RowKit
set_option linter.unusedVariables false
set_option linter.unusedSimpArgs false
set_option maxRecDepth 100000
def lnC (A : Option Addr) (n c s : Nat) (up : Nat → Bool) (r : Bool) : Array Value := #[.slice A n c, .int .i64 s, .bool (up 0), .bool (up 1), .bool (up 2), .bool (up 3), .bool r]
/-- The row of edges of lines, which is their own. -/
def EOwn (w : World) (A : Option Addr) (n c : Nat) (es : Nat → Iib) : Prop := n ≤ c ∧ c ≤ maxLen ∧ ERow w A n es ∧ Typed w A 150 ∧ (A = none → n = 0 ∧ c = 0)
def Good (n : Nat) (es : Nat → Iib) : Prop := n ≤ 1000 ∧ (∀ j, j < n → badE es j = 0) ∧ (∀ j, j < n → 0 ≤ (es j).b)
/-- Lines at g, s of their edges having gone by. -/
def LN (w : World) (g n : Nat) (es : Nat → Iib) (s : Nat) (r : Bool) : Prop :=
  s ≤ n ∧ ∃ A c, Blk w g 73 (lnC A n c s (fun j => upTo es s j) r) ∧ EOwn w A n c es
theorem EOwn.kp {w w' : World} {A : Option Addr} {n c : Nat} {es : Nat → Iib} {L : List Nat} (h : EOwn w A n c es) (k : Kp L w w') (hL : ∀ x ∈ L, ∃ t cs, Blk w x t cs ∧ 150 ≠ t) : EOwn w' A n c es := by
  obtain ⟨h1, h2, h3, h4, h5⟩ := h
  exact ⟨h1, h2, FRow.kp h3 k (h4.off hL), h4.kp k (h4.off hL), h5⟩
theorem EOwn.keep {w w' : World} {A : Option Addr} {n c : Nat} {es : Nat → Iib} (h : EOwn w A n c es) (k : Below w.heap.size w w') : EOwn w' A n c es :=
  h.kp (L := []) (Kp.of_below k) (fun x hx => by cases hx)
theorem LN.kp {w w' : World} {g n : Nat} {es : Nat → Iib} {s : Nat} {r : Bool} {L : List Nat} (h : LN w g n es s r) (k : Kp L w w') (hL : ∀ x ∈ L, ∃ t cs, Blk w x t cs ∧ 150 ≠ t) (hg : g ∉ L) : LN w' g n es s r := by
  obtain ⟨h1, A, c, h2, h3⟩ := h
  exact ⟨h1, A, c, h2.kp k hg, h3.kp k hL⟩
theorem LN.keep {w w' : World} {g n : Nat} {es : Nat → Iib} {s : Nat} {r : Bool} (h : LN w g n es s r) (k : Below w.heap.size w w') : LN w' g n es s r :=
  h.kp (L := []) (Kp.of_below k) (fun x hx => by cases hx) (by simp)
theorem LN.lt {w : World} {g n : Nat} {es : Nat → Iib} {s : Nat} {r : Bool} (h : LN w g n es s r) : g < w.heap.size := by
  obtain ⟨_, _, _, h2, _⟩ := h
  exact h2.lt
def NewYR (n : Nat) (es : Nat → Iib) (w : World) (e : Ending) (w' : World) : Prop :=
  ∃ g, e = .returned (.tuple #[.pointer (some ⟨g, 0, none⟩), .agg #[.int .i64 0, .int .i64 0]]) ∧ w.heap.size ≤ g ∧ LN w' g n es 0 false ∧ Below w.heap.size w w'
set_option maxHeartbeats 2000000 in
theorem lnew_yes {w : World} {A : Option Addr} {n c : Nat} {es : Nat → Iib} (hA : A = none → n = 0 ∧ c = 0) (R : ERow w A n es) (hc : n ≤ 9223372036854775807) (h : (chk es n).1 = 0) :
    Calls Tryz.prog 20 #[.slice A n c] w (NewYR n es w) := by
  have HR := Lib.hid R
  have HA := Lib.hid hA
  obtain ⟨q1, _, q3⟩ := chk_zero h
  have HC := Lib.hid q3
  clear R hA h q3
  go_enter Tryz.func20, Tryz.ntmps20
  go_wp2_with fail
  have hB0 : Below w.heap.size w (w.alloc (.cells #[.int .i64 0, .int .i64 0] 31)) := (Below.refl _ _).alloc (Nat.le_refl _) _
  have hb0 : Blk (w.alloc (.cells #[.int .i64 0, .int .i64 0] 31)) w.heap.size 31 #[.int .i64 0, .int .i64 0] := Blk.new w _ _
  refine (lncheck_any (FRow.keep HR.out hB0) hc).mono ?_
  rw [HC.out]
  simp only [fltV]
  rintro e w1 ⟨rfl, h1⟩
  have hB1 := Lib.hid (hB0.trans (h1.mono hB0.size))
  have hb1 := Lib.hid (hb0.below h1 hb0.lt)
  have s1 := hB1.out.size
  clear hB0 hb0 h1
  go_wp2_with fail
  have hB2 := Lib.hid (hB1.out.alloc s1 (.cells #[.int .i64 0, .int .i64 0] 31))
  have hb2 := Lib.hid (hb1.out.alloc (.cells #[.int .i64 0, .int .i64 0] 31))
  have s2 := hB2.out.size
  refine (eclone_any HA.out (FRow.keep HR.out hB2.out) q1).mono ?_
  rintro e w3 ⟨A', c', rfl, e1, e2, e3, e4, e5, h3⟩
  have hB3 := Lib.hid (hB2.out.trans (h3.mono s2))
  have hb3 := hb2.out.below h3 hb2.out.lt
  have s3 := hB3.out.size
  have HE : Hid (EOwn w3 A' n c' es) := Lib.hid ⟨e1, e2, e3, e4, e5⟩
  clear e1 e2 e3 e4 e5 h3 hB1 hb1 hB2 hb2
  have c20 : w3.cell? ⟨w.heap.size, 0, none⟩ = some (.int .i64 0) := hb3.cell 0
  have c21 : w3.cell? ⟨w.heap.size, 1, none⟩ = some (.int .i64 0) := hb3.cell 1
  have f20 := hb3.frozen 0
  have f21 := hb3.frozen 1
  have hlt := hb3.lt
  have HB3 := Lib.hid hb3
  clear hb3
  go_wp2_with fail
  have hb4 := ((HB3.out.set_ 0 (.int .i64 0)).set_ 1 (.int .i64 0)).alloc (.cells (lnC A' n c' 0 (fun _ => false) false) 73)
  have f0 : ((((w3.setCell ⟨w.heap.size, 0, none⟩ (.int .i64 0)).setCell ⟨w.heap.size, 1, none⟩ (.int .i64 0)).alloc (.cells (lnC A' n c' 0 (fun _ => false) false) 73))).cell? ⟨w.heap.size, 0, none⟩ = some (.int .i64 0) := hb4.cell 0
  have f1 : ((((w3.setCell ⟨w.heap.size, 0, none⟩ (.int .i64 0)).setCell ⟨w.heap.size, 1, none⟩ (.int .i64 0)).alloc (.cells (lnC A' n c' 0 (fun _ => false) false) 73))).cell? ⟨w.heap.size, 1, none⟩ = some (.int .i64 0) := hb4.cell 1
  have kp : Kp [w.heap.size] w3 ((((w3.setCell ⟨w.heap.size, 0, none⟩ (.int .i64 0)).setCell ⟨w.heap.size, 1, none⟩ (.int .i64 0)).alloc (.cells (lnC A' n c' 0 (fun _ => false) false) 73))) :=
    (((Kp.refl _ _).setCell (.inl (by simp)) _).setCell (.inl (by simp)) _).alloc _
  have hE := HE.out.kp kp (fun x hx => by
    obtain rfl : x = w.heap.size := by simpa using hx
    exact ⟨_, _, HB3.out, by decide⟩)
  have hB := kp.onto hB3.out s3 (by simp)
  have hL : Blk ((((w3.setCell ⟨w.heap.size, 0, none⟩ (.int .i64 0)).setCell ⟨w.heap.size, 1, none⟩ (.int .i64 0)).alloc (.cells (lnC A' n c' 0 (fun _ => false) false) 73))) w3.heap.size 73 (lnC A' n c' 0 (fun _ => false) false) := Blk.new_ (by simp [World.setCell])
  show bodyPost Tryz.prog Tryz.f20 _ _ _ ((((w3.setCell ⟨w.heap.size, 0, none⟩ (.int .i64 0)).setCell ⟨w.heap.size, 1, none⟩ (.int .i64 0)).alloc (.cells (lnC A' n c' 0 (fun _ => false) false) 73)))
  generalize World.alloc _ _ = w4 at *
  refine bodyPost_ret (v := .tuple #[.pointer (some ⟨w3.heap.size, 0, none⟩), .agg #[.int .i64 0, .int .i64 0]]) (by simp [results, Tryz.results20, go_sem, f0, f1]) rfl ?_
  exact ⟨w3.heap.size, rfl, s3, ⟨Nat.zero_le _, A', c', hL, hE⟩, hB⟩
end Go.Proofs.YtngfmofjonleeaaGreat
namespace Go.Proofs.YtngfmofjonleeaaGreat
open Go.RowKit
set_option linter.unusedVariables false
set_option linter.unusedSimpArgs false
set_option maxRecDepth 100000
def upV (es : Nat → Iib) (s j : Nat) : Bool := if j < 4 then upTo es s j else false
section
variable {w : World} {g n : Nat} {es : Nat → Iib} {s : Nat} {r : Bool}
end
section
variable (w : World)
end
end Go.Proofs.YtngfmofjonleeaaGreat
