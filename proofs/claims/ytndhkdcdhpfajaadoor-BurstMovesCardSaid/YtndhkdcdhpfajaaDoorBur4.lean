/-
  The document's block on its way: Done, Next, Step.
-/
import Derived.Test.YtndhkdcdhpfajaaDoorBur3
namespace Go.Proofs.YtndhkdcdhpfajaaDoor
open Go.RowKit
set_option linter.unusedVariables false
set_option linter.unusedSimpArgs false
set_option maxRecDepth 100000
def rbC (s : Bu) (l : Int) : Array Value := #[.int .u8 (s.k : Int), .int .u16 s.f, .int .u16 s.t, .int .u16 l, .int .i64 ((6 * s.m + s.p : Nat) : Int), .int .u8 s.d]
def RB (w : World) (g : Nat) (s : Bu) (l : Int) : Prop := Blk w g 32 (rbC s l)
section
variable {w : World} {g : Nat} {s : Bu} {l : Int}
theorem RB.lt (h : RB w g s l) : g < w.heap.size := Blk.lt h
theorem RB.kp {L : List Nat} {w' : World} (h : RB w g s l) (k : Kp L w w') (hg : g ∉ L) : RB w' g s l := Blk.kp h k hg
theorem RB.below {B : Nat} {w' : World} (h : RB w g s l) (hb : Below B w w') (hg : g < B) : RB w' g s l := Blk.below h hb hg
theorem RB.keep {w' : World} (h : RB w g s l) (hb : Below w.heap.size w w') : RB w' g s l := Blk.below h hb h.lt
set_option maxHeartbeats 4000000 in
theorem rbdone_any (h : RB w g s l) (ho : s.ok) (l0 : 0 ≤ l) (l1 : l ≤ 65535) (hl : cntP l = (s.b : Int)) : Calls Tryd.prog 23 #[.pointer (some ⟨g, 0, none⟩)] w fun e w' => e = .returned (.bool (decide (s.m = s.b))) ∧ Below w.heap.size w w' := by
  have hC := fun W => rvcount_any l l0 l1 W
  rw [hl] at hC
  have HC := Lib.hid hC
  have b1 := ho.b1
  have m1 := ho.m1
  have p6 := ho.p6
  have pe := ho.pe
  have c3 : w.cell? ⟨g, 3, none⟩ = some (.int .u16 l) := Blk.cell h 3
  have c4 : w.cell? ⟨g, 4, none⟩ = some (.int .i64 ((6 * s.m + s.p : Nat) : Int)) := Blk.cell h 4
  obtain ⟨a, ha⟩ : ∃ a, 6 * s.m + s.p = a := ⟨_, rfl⟩
  obtain ⟨px, hpx⟩ : ∃ px : Int, 6 * (s.b : Int) = px := ⟨_, rfl⟩
  have e1 : wrap64 (6 * (s.b : Int)) = px := by rw [IntWalk.wrap64_in _ (by omega)]; exact hpx
  have e2 : IntKind.i64.wrap (6 * (s.b : Int)) = px := by rw [IntWalk.i64_in _ (by omega)]; exact hpx
  rw [ha] at c4
  by_cases x : s.m = s.b
  · rw [decide_eq_true x]
    have hp := pe x
    have q : px ≤ (a : Int) := by omega
    have dq : decide (px ≤ (a : Int)) = true := decide_eq_true q
    have q0 : (0 : Int) ≤ px := by omega
    have q1 : px ≤ 400000 := by omega
    clear h ho hl hC b1 m1 p6 pe l0 l1 ha hpx hp x
    go_enter Tryd.func23, Tryd.ntmps23
    go_wp2_with fail
    go_quiet ((go_at_call 22; exact Calls.quiet_of_same ((HC.out _).mono fun _ _ h => ⟨h.1, h.2.symm⟩)))
    go_wp2
    go_ret
    exact ⟨rfl, below_drewN (Below.refl _ _) _⟩
  · rw [decide_eq_false x]
    have q : ¬ px ≤ (a : Int) := by omega
    have dq : decide (px ≤ (a : Int)) = false := decide_eq_false q
    have q0 : (0 : Int) ≤ px := by omega
    have q1 : px ≤ 400000 := by omega
    clear h ho hl hC b1 m1 p6 pe l0 l1 ha hpx x
    go_enter Tryd.func23, Tryd.ntmps23
    go_wp2_with fail
    go_quiet ((go_at_call 22; exact Calls.quiet_of_same ((HC.out _).mono fun _ _ h => ⟨h.1, h.2.symm⟩)))
    go_wp2
    go_ret
    exact ⟨rfl, below_drewN (Below.refl _ _) _⟩
end
end Go.Proofs.YtndhkdcdhpfajaaDoor
