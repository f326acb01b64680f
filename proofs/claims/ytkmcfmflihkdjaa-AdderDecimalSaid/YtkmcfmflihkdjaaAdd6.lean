/-
  Adder: rows of bytes that are alike; what must be whatever is asked.
-/
import Derived.Test.YtkmcfmflihkdjaaAdd3
import Derived.Test.YtkmcfmflihkdjaaAdd5
namespace Go.Proofs.Ytkmcfmflihkdjaa
open Go.RowKit
set_option linter.unusedVariables false
set_option linter.unusedSimpArgs false
set_option maxRecDepth 100000
theorem below_drewN' {B : Nat} {w w' : World} (h : Below B w w') (n : Nat) : Below B w (w'.drewN n) := ⟨h.os, h.tape, h.output, h.size, h.block⟩
theorem IRow.congr {w : World} {k : IntKind} {A : Option Addr} {n : Nat} {z z' : Nat → Int} (h : IRow w k A n z) (e : ∀ i, i < n → z i = z' i) : IRow w k A n z' := fun i hi => by
  obtain ⟨ad, h1, h2, h3, h4⟩ := h i hi
  rw [e i hi] at h3 h4
  exact ⟨ad, h1, h2, h3, h4⟩
set_option maxHeartbeats 2000000 in
theorem asame_yes {w : World} (A B : Option Addr) (n c d : Nat) (z : Nat → Int) (hn : n ≤ maxLen) (R : IRow w .u8 A n z) (Q : IRow w .u8 B n z) :
    Calls Try.prog 21 #[.slice A n c, .slice B n d] w fun e w' => e = .returned (.bool true) ∧ Below w.heap.size w w' := by
  unfold maxLen at hn
  have n0 : ((n : Int) != n) = false := by simp
  go_enter Try.func21, Try.ntmps21
  go_wp2_with fail
  clear n0
  go_loopw [5] (fun i wr => ∃ k : Nat, k ≤ n ∧ i = .int .i64 k ∧ wr.heap = w.heap ∧ Below w.heap.size w wr) (fun i _ => n - (intOf i).toNat)
  case atStart => exact ⟨0, by omega, rfl, rfl, Below.refl _ _⟩
  case round =>
    obtain ⟨k, hk, rfl, hh, hB⟩ := hrel
    have HH := Lib.hid hh
    clear hh
    by_cases hlt : k < n
    · obtain ⟨a1, rfl, _, x1, _⟩ := R k hlt
      obtain ⟨a2, rfl, _, x2, _⟩ := Q k hlt
      have x1' : wr.cell? (a1.add k) = _ := (World.cell?_of_block (by rw [HH.out])).trans x1
      have x2' : wr.cell? (a2.add k) = _ := (World.cell?_of_block (by rw [HH.out])).trans x2
      have NS : (z k != z k) = false := by simp
      clear x1 x2
      generalize z k = V at *
      go_wp2_with fail
      go_quiet (fail)
      go_wp2_with fail
      go_roundw
      case rel => exact ⟨k + 1, by omega, by go_num, HH.out, (below_drewN' hB _)⟩
      case measure => simp [intOf]; omega
    · obtain rfl : k = n := by omega
      go_wp2_with fail
      go_ret
      exact ⟨rfl, hB⟩
/-- Two rows of the same bytes, each as it is had. -/
theorem asame2 {w : World} {A B : Option Addr} {n c d : Nat} {z z' : Nat → Int} (hn : n ≤ maxLen) (R : IRow w .u8 A n z) (Q : IRow w .u8 B n z') (e : ∀ i, i < n → z i = z' i) :
    Calls Try.prog 21 #[.slice A n c, .slice B n d] w fun e w' => e = .returned (.bool true) ∧ Below w.heap.size w w' := asame_yes A B n c d z' hn (R.congr e) Q
def z3 : Nat → Int | 0 => 52 | 1 => 18 | _ => 0
set_option maxHeartbeats 8000000 in
theorem live21 (w : World) : Calls Try.prog 12 #[] w fun e w' => e = .returned (.bool true) ∧ Below w.heap.size w w' := by
  go_enter Try.func12, Try.ntmps12
  go_wp2_with fail
  refine (aAdd_any 127 1 0 _ (by decide) (by decide) (by decide) (by decide)).mono ?_
  rw [show adV 127 1 0 = 128 by decide +kernel, show adP 127 1 0 = 192 by decide +kernel, show flI 0 8 = false by decide +kernel]
  rintro e w1 ⟨rfl, b1⟩
  have B1 := Lib.hid b1
  clear b1
  go_wp2_with fail
  refine (aAdd_any 25 1 8 _ (by decide) (by decide) (by decide) (by decide)).mono ?_
  rw [show adV 25 1 8 = 32 by decide +kernel, show flI 8 8 = true by decide +kernel]
  rintro e w2 ⟨rfl, b2⟩
  have B2 := Lib.hid (B1.out.trans (b2.mono B1.out.size))
  clear b2
  go_wp2_with fail
  refine (aSub_any 32 1 9 _ (by decide) (by decide) (by decide) (by decide)).mono ?_
  rw [show sbV 32 1 9 = 25 by decide +kernel, show sbP 32 1 9 = 9 by decide +kernel]
  rintro e w3 ⟨rfl, b3⟩
  have B3 := Lib.hid (B2.out.trans (b3.mono B2.out.size))
  clear b3
  go_wp2_with fail
  refine (digits_any' _ 1234 3 (by decide) (by decide) (by decide) (by decide) 3 (by decide)).mono ?_
  rintro e w4 ⟨g, rfl, h1, R, b4⟩
  have B4 := Lib.hid (B3.out.trans (b4.mono B3.out.size))
  have HR := Lib.hid R
  clear b4 R
  go_wp2_with fail
  have Q : IRow (w4.alloc (Obj.cells #[Value.int IntKind.u8 52, Value.int IntKind.u8 18, Value.int IntKind.u8 0] 5)) .u8 (some ⟨w4.heap.size, 0, none⟩) 3 z3 := by
    have hb := Blk.new w4 5 #[Value.int IntKind.u8 52, Value.int IntKind.u8 18, Value.int IntKind.u8 0]
    intro i hi
    refine ⟨_, rfl, hb.lt, ?_, ?_⟩
    · rw [add_zero_block, hb.cell i]
      match i, hi with
      | 0, _ => rfl
      | 1, _ => rfl
      | 2, _ => rfl
    · match i, hi with
      | 0, _ => rfl
      | 1, _ => rfl
      | 2, _ => rfl
  have B5 : Below w.heap.size w (w4.alloc (Obj.cells #[Value.int IntKind.u8 52, Value.int IntKind.u8 18, Value.int IntKind.u8 0] 5)) := B4.out.alloc B4.out.size _
  have R5 := HR.out.keep ((Below.refl _ w4).alloc (Nat.le_refl _) (Obj.cells #[Value.int IntKind.u8 52, Value.int IntKind.u8 18, Value.int IntKind.u8 0] 5))
  refine (asame2 (by decide) R5 Q (by decide +kernel)).mono ?_
  rintro e w6 ⟨rfl, b6⟩
  have B6 := Lib.hid (B5.trans (b6.mono B5.size))
  clear B5 b6 R5 Q
  go_wp2_with fail
  refine (acompare_any 5 5 0 _ (by decide) (by decide) (by decide) (by decide)).mono ?_
  rw [show flR (flS 0 1 (decide ((5 : Int) ≤ 5))) ((5 - 5) % 256) = 3 by decide +kernel]
  rintro e w' ⟨rfl, rfl⟩
  go_wp2_with fail
  go_ret
  exact ⟨rfl, B6.out⟩
end Go.Proofs.Ytkmcfmflihkdjaa
