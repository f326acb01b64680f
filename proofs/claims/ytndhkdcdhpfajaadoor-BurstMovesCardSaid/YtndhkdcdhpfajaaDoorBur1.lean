/-
  Blocks on their way: what they are; Data, Phase, Left, Done, Clone, Cycles, New; the same of nil.
-/
import Derived.Test.YtndhkdcdhpfajaaDoorMov1
import Derived.Test.YtndhkdcdhpfajaaDoorG4
import Derived.Test.YtndhkdcdhpfajaaDoorG12
import Derived.Handy
namespace Go.Proofs.YtndhkdcdhpfajaaDoor
open Go.RowKit
set_option linter.unusedVariables false
set_option linter.unusedSimpArgs false
set_option maxRecDepth 100000
/-- A block on its way: its kind, from where, to where, how many bytes, how many are moved, which cycle is next, what was read. -/
structure Bu where
  k : Nat
  f : Int
  t : Int
  b : Nat
  m : Nat
  p : Nat
  d : Int
structure Bu.ok (s : Bu) : Prop where
  k5 : s.k < 5
  f0 : 0 ≤ s.f
  f1 : s.f ≤ 65535
  t0 : 0 ≤ s.t
  t1 : s.t ≤ 65535
  b1 : s.b ≤ 65536
  m1 : s.m ≤ s.b
  p6 : s.p < 6
  d0 : 0 ≤ s.d
  d1 : s.d ≤ 255
  pe : s.m = s.b → s.p = 0
def buC (s : Bu) : Array Value := #[.int .u8 (s.k : Int), .int .u16 s.f, .int .u16 s.t, .int .i64 (s.b : Int), .int .i64 (s.m : Int), .int .i64 (s.p : Int), .int .u8 s.d]
/-- In block g there is that block on its way. -/
def BuB (w : World) (g : Nat) (s : Bu) : Prop := Blk w g 52 (buC s)
def Bu.kd (s : Bu) : Int := if s.m = s.b then 2 else if s.p = 1 then 3 else if s.p = 4 then 4 else 2
def Bu.pl (s : Bu) : Int := if s.m = s.b then 0 else if s.p = 1 then mvF s.k s.f (s.m : Int) else if s.p = 4 then mvT s.k s.t (s.m : Int) else 0
def Bu.go (s : Bu) (v : Int) : Bu := if s.m = s.b then s else if s.p = 1 then ⟨s.k, s.f, s.t, s.b, s.m, 2, v⟩ else if s.p = 5 then ⟨s.k, s.f, s.t, s.b, s.m + 1, 0, s.d⟩ else ⟨s.k, s.f, s.t, s.b, s.m, s.p + 1, s.d⟩
theorem Bu.go_ok {s : Bu} (h : s.ok) (v : Int) (v0 : 0 ≤ v) (v1 : v ≤ 255) : (s.go v).ok := by
  obtain ⟨a, b, c, d, e, f, g, i, j, k, l⟩ := h
  unfold Bu.go
  split
  · exact ⟨a, b, c, d, e, f, g, i, j, k, l⟩
  split
  · exact ⟨a, b, c, d, e, f, g, by dsimp only; omega, v0, v1, by dsimp only; omega⟩
  split
  · exact ⟨a, b, c, d, e, f, by dsimp only; omega, by dsimp only; omega, j, k, by dsimp only; omega⟩
  · exact ⟨a, b, c, d, e, f, g, by dsimp only; omega, j, k, by dsimp only; omega⟩
section
variable {w : World} {g : Nat} {s : Bu}
theorem BuB.lt (h : BuB w g s) : g < w.heap.size := Blk.lt h
theorem BuB.kp {L : List Nat} {w' : World} (h : BuB w g s) (k : Kp L w w') (hg : g ∉ L) : BuB w' g s := Blk.kp h k hg
theorem BuB.below {B : Nat} {w' : World} (h : BuB w g s) (hb : Below B w w') (hg : g < B) : BuB w' g s := Blk.below h hb hg
theorem BuB.keep {w' : World} (h : BuB w g s) (hb : Below w.heap.size w w') : BuB w' g s := Blk.below h hb h.lt
theorem bdata_any (h : BuB w g s) : Calls Tryd.prog 13 #[.pointer (some ⟨g, 0, none⟩)] w fun e w' => e = .returned (.int .u8 s.d) ∧ w = w' := by
  have c6 : w.cell? ⟨g, 6, none⟩ = some (.int .u8 s.d) := Blk.cell h 6
  clear h
  go_enter Tryd.func13, Tryd.ntmps13
  go_wp2
  go_ret
  exact ⟨rfl, rfl⟩
theorem bphase_any (h : BuB w g s) : Calls Tryd.prog 18 #[.pointer (some ⟨g, 0, none⟩)] w fun e w' => e = .returned (.int .i64 (s.p : Int)) ∧ w = w' := by
  have c5 : w.cell? ⟨g, 5, none⟩ = some (.int .i64 (s.p : Int)) := Blk.cell h 5
  clear h
  go_enter Tryd.func18, Tryd.ntmps18
  go_wp2
  go_ret
  exact ⟨rfl, rfl⟩
theorem bleft_any (h : BuB w g s) (ho : s.ok) (L : Int) (hL : (s.b : Int) - (s.m : Int) = L) : Calls Tryd.prog 17 #[.pointer (some ⟨g, 0, none⟩)] w fun e w' => e = .returned (.int .i64 L) ∧ Below w.heap.size w w' := by
  have c3 : w.cell? ⟨g, 3, none⟩ = some (.int .i64 (s.b : Int)) := Blk.cell h 3
  have c4 : w.cell? ⟨g, 4, none⟩ = some (.int .i64 (s.m : Int)) := Blk.cell h 4
  have b1 : (s.b : Int) ≤ 65536 := by have := ho.b1; omega
  have m1 : (s.m : Int) ≤ (s.b : Int) := by have := ho.m1; omega
  have m0 : (0 : Int) ≤ (s.m : Int) := by omega
  have e1 : wrap64 ((s.b : Int) - (s.m : Int)) = L := by rw [IntWalk.wrap64_in _ (by omega)]; exact hL
  have e2 : IntKind.i64.wrap ((s.b : Int) - (s.m : Int)) = L := by rw [IntWalk.i64_in _ (by omega)]; exact hL
  clear h ho hL
  go_enter Tryd.func17, Tryd.ntmps17
  go_wp2_with fail
  go_quiet (fail)
  go_wp2
  go_ret
  exact ⟨by first | rfl | go_num, below_drewN (Below.refl _ _) _⟩
theorem bdone_any (h : BuB w g s) (ho : s.ok) : Calls Tryd.prog 11 #[.pointer (some ⟨g, 0, none⟩)] w fun e w' => e = .returned (.bool (decide (s.m = s.b))) ∧ Below w.heap.size w w' := by
  have H := Lib.hid h
  have HO := Lib.hid ho
  have hm := ho.m1
  obtain ⟨L, hL⟩ : ∃ L : Int, (s.b : Int) - (s.m : Int) = L := ⟨_, rfl⟩
  have e : (L == 0) = decide (s.m = s.b) := by
    by_cases x : s.m = s.b
    · rw [decide_eq_true x]; simp; omega
    · rw [decide_eq_false x]; simp; omega
  have HL := Lib.hid hL
  clear h ho hm hL
  go_enter Tryd.func11, Tryd.ntmps11
  go_wp2_with fail
  refine (bleft_any H.out HO.out L HL.out).mono ?_
  rintro e w' ⟨rfl, hb⟩
  have HB := Lib.hid hb
  clear hb
  go_wp2
  go_ret
  exact ⟨rfl, HB.out⟩
theorem bdata_nil (w : World) : Calls Tryd.prog 13 #[.pointer none] w fun e w' => e = .returned (.int .u8 0) ∧ w = w' := by
  go_enter Tryd.func13, Tryd.ntmps13
  go_wp2
  go_ret
  exact ⟨rfl, rfl⟩
theorem bphase_nil (w : World) : Calls Tryd.prog 18 #[.pointer none] w fun e w' => e = .returned (.int .i64 0) ∧ w = w' := by
  go_enter Tryd.func18, Tryd.ntmps18
  go_wp2
  go_ret
  exact ⟨rfl, rfl⟩
theorem bleft_nil (w : World) : Calls Tryd.prog 17 #[.pointer none] w fun e w' => e = .returned (.int .i64 0) ∧ w = w' := by
  go_enter Tryd.func17, Tryd.ntmps17
  go_wp2
  go_ret
  exact ⟨rfl, rfl⟩
theorem bdone_nil (w : World) : Calls Tryd.prog 11 #[.pointer none] w fun e w' => e = .returned (.bool true) ∧ w = w' := by
  go_enter Tryd.func11, Tryd.ntmps11
  go_wp2_with fail
  refine (bleft_nil _).mono ?_
  rintro e w' ⟨rfl, rfl⟩
  go_wp2
  go_ret
  exact ⟨rfl, rfl⟩
theorem bstep_nil (v : Int) (w : World) : Calls Tryd.prog 8 #[.pointer none, .int .u8 v] w fun e w' => e = .returned (.tuple #[]) ∧ w = w' := by
  go_enter Tryd.func8, Tryd.ntmps8
  go_wp2_with fail
  refine (bdone_nil _).mono ?_
  rintro e w' ⟨rfl, rfl⟩
  go_wp2_with fail
  refine bodyPost_ret (results_none rfl _ _ _) rfl ?_
  exact ⟨rfl, rfl⟩
theorem bnext_nil (w : World) : Calls Tryd.prog 12 #[.pointer none] w fun e w' => e = .returned (.tuple #[.int .u8 2, .int .u16 0]) ∧ w = w' := by
  go_enter Tryd.func12, Tryd.ntmps12
  go_wp2_with fail
  refine (bdone_nil _).mono ?_
  rintro e w' ⟨rfl, rfl⟩
  go_wp2
  go_ret2
  exact ⟨rfl, rfl⟩
theorem bclone_nil (w : World) : Calls Tryd.prog 10 #[.pointer none] w fun e w' => e = .returned (.pointer none) ∧ w = w' := by
  go_enter Tryd.func10, Tryd.ntmps10
  go_wp2
  go_ret
  exact ⟨rfl, rfl⟩
set_option maxHeartbeats 4000000 in
theorem bclone_any (h : BuB w g s) : Calls Tryd.prog 10 #[.pointer (some ⟨g, 0, none⟩)] w fun e w' => e = .returned (.pointer (some ⟨w.heap.size, 0, none⟩)) ∧ BuB w' w.heap.size s ∧ Below w.heap.size w w' := by
  have c0 : w.cell? ⟨g, 0, none⟩ = some (.int .u8 (s.k : Int)) := Blk.cell h 0
  have c1 : w.cell? ⟨g, 1, none⟩ = some (.int .u16 s.f) := Blk.cell h 1
  have c2 : w.cell? ⟨g, 2, none⟩ = some (.int .u16 s.t) := Blk.cell h 2
  have c3 : w.cell? ⟨g, 3, none⟩ = some (.int .i64 (s.b : Int)) := Blk.cell h 3
  have c4 : w.cell? ⟨g, 4, none⟩ = some (.int .i64 (s.m : Int)) := Blk.cell h 4
  have c5 : w.cell? ⟨g, 5, none⟩ = some (.int .i64 (s.p : Int)) := Blk.cell h 5
  have c6 : w.cell? ⟨g, 6, none⟩ = some (.int .u8 s.d) := Blk.cell h 6
  clear h
  go_enter Tryd.func10, Tryd.ntmps10
  go_wp2
  go_ret
  exact ⟨rfl, Blk.new w _ _, (Below.refl _ _).alloc (Nat.le_refl _) _⟩
theorem bcycles_any (l : Int) (l0 : 0 ≤ l) (l1 : l ≤ 65535) (w : World) : Calls Tryd.prog 15 #[.int .u16 l] w fun e w' => e = .returned (.int .i64 (6 * cntP l)) ∧ w = w' := by
  obtain ⟨q0, q1⟩ := cntP_bd l l0 l1
  have hC := vcount_any l l0 l1 w
  generalize cntP l = c at *
  have HC := Lib.hid hC
  clear hC l0 l1
  go_enter Tryd.func15, Tryd.ntmps15
  go_wp2_with fail
  refine HC.out.mono ?_
  rintro e w' ⟨rfl, rfl⟩
  go_wp2
  go_ret
  exact ⟨rfl, rfl⟩
end
end Go.Proofs.YtndhkdcdhpfajaaDoor
