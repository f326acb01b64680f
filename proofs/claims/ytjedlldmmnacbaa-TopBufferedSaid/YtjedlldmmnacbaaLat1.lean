/-
  The buffer of the hardware page: New, Value, Write, Read, of one that was made and of nil.
-/
import Derived.Test.YtjedlldmmnacbaaA1
import Derived.Test.YtjedlldmmnacbaaG4
import Derived.Test.YtjedlldmmnacbaaG12
import Derived.Handy
namespace Go.Proofs.Ytjedlldmmnacbaa
open Go.RowKit
set_option linter.unusedVariables false
/-- A buffer that has b. -/
def LT (w : World) (g : Nat) (b : Int) : Prop := Blk w g 77 #[.int .u8 b]
theorem LT.set {w : World} {g : Nat} {b : Int} (h : LT w g b) (u : Int) : LT (w.setCell ⟨g, 0, none⟩ (.int .u8 u)) g u := Blk.set_ h 0 _
/-- What is read: the bits of the mask are those of b, all others stay. -/
def mixI (v m b : Int) : Int := bits .or .u8 (bits .andNot .u8 v m) (bits .and .u8 b m)
theorem lnew_any (b : Int) (w : World) :
    Calls Try.prog 25 #[.int .u8 b] w fun e w' => e = .returned (.pointer (some ⟨w.heap.size, 0, none⟩)) ∧ w' = w.alloc (.cells #[.int .u8 b] 77) := by
  go_enter Try.func25, Try.ntmps25
  go_wp2
  go_ret
  exact ⟨rfl, rfl⟩
theorem value_any {w : World} {g : Nat} {b : Int} (h : LT w g b) :
    Calls Try.prog 28 #[.pointer (some ⟨g, 0, none⟩)] w fun e w' => e = .returned (.int .u8 b) ∧ w = w' := by
  have c0 : w.cell? ⟨g, 0, none⟩ = some (.int .u8 b) := Blk.cell h 0
  clear h
  go_enter Try.func28, Try.ntmps28
  go_wp2
  go_ret
  exact ⟨rfl, rfl⟩
theorem value_nil (w : World) :
    Calls Try.prog 28 #[.pointer none] w fun e w' => e = .returned (.int .u8 0) ∧ w = w' := by
  go_enter Try.func28, Try.ntmps28
  go_wp2
  go_ret
  exact ⟨rfl, rfl⟩
theorem lwrite_any {w : World} {g : Nat} {b : Int} (h : LT w g b) (u : Int) :
    Calls Try.prog 41 #[.pointer (some ⟨g, 0, none⟩), .int .u8 u] w fun e w' => e = .returned (.tuple #[]) ∧ w' = w.setCell ⟨g, 0, none⟩ (.int .u8 u) := by
  have c0 : w.cell? ⟨g, 0, none⟩ = some (.int .u8 b) := Blk.cell h 0
  have f0 := Blk.frozen h 0
  clear h
  go_enter Try.func41, Try.ntmps41
  go_wp2
  go_end0
  exact ⟨rfl, rfl⟩
theorem lwrite_nil (u : Int) (w : World) :
    Calls Try.prog 41 #[.pointer none, .int .u8 u] w fun e w' => e = .returned (.tuple #[]) ∧ w = w' := by
  go_enter Try.func41, Try.ntmps41
  go_wp2
  go_end0
  exact ⟨rfl, rfl⟩
def LReadR (g : Nat) (v : Int) (w : World) (e : Ending) (w' : World) : Prop := e = .returned (.int .u8 v) ∧ LT w' g v ∧ Kp [g] w w'
theorem lread_any {w : World} {g : Nat} {v : Int} (h : LT w g v) (m b : Int) :
    Calls Try.prog 27 #[.pointer (some ⟨g, 0, none⟩), .int .u8 m, .int .u8 b] w (LReadR g (mixI v m b) w) := by
  have H := Lib.hid h
  clear h
  go_enter Try.func27, Try.ntmps27
  go_wp2_with fail
  refine (value_any H.out).mono ?_
  rintro e w' ⟨rfl, rfl⟩
  go_wp2_with fail
  refine (lwrite_any H.out _).mono ?_
  rintro e w' ⟨rfl, rfl⟩
  go_wp2
  go_ret
  exact ⟨rfl, H.out.set _, (Kp.refl _ _).setCell (.inl (by simp)) _⟩
theorem lread_nil (m b : Int) (w : World) :
    Calls Try.prog 27 #[.pointer none, .int .u8 m, .int .u8 b] w fun e w' => e = .returned (.int .u8 (mixI 0 m b)) ∧ w = w' := by
  go_enter Try.func27, Try.ntmps27
  go_wp2_with fail
  refine (value_nil _).mono ?_
  rintro e w' ⟨rfl, rfl⟩
  go_wp2_with fail
  refine (lwrite_nil _ _).mono ?_
  rintro e w' ⟨rfl, rfl⟩
  go_wp2
  go_ret
  exact ⟨rfl, rfl⟩
end Go.Proofs.Ytjedlldmmnacbaa
