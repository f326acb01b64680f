/-
  Texts of these proofs, one behind the other: Mmu3.
-/
import Derived.Test.YtmbbcfdeielopaaDoorRRRRKTK44
import Derived.Test.YtmbbcfdeielopaaDoorRRRRKTK49
import Derived.Test.YtmbbcfdeielopaaDoorRRRRKTK06
namespace Go.Proofs.YtmbbcfdeielopaaDoorRRRR
open Go.RowKit
set_option linter.unusedVariables false
set_option linter.unusedSimpArgs false
set_option maxRecDepth 100000
def mmC (z : Nat → Int) (l : Int) : Array Value := #[.int .u8 (z 0), .int .u8 (z 1), .int .u8 (z 2), .int .u8 (z 3), .int .u8 (z 4), .int .u8 (z 5), .int .u8 (z 6), .int .u8 (z 7), .int .u8 l]
theorem mmC_congr {z y : Nat → Int} {l : Int} (h : ∀ i, i < 8 → z i = y i) : mmC z l = mmC y l := by
  unfold mmC
  rw [h 0 (by decide), h 1 (by decide), h 2 (by decide), h 3 (by decide), h 4 (by decide), h 5 (by decide), h 6 (by decide), h 7 (by decide)]
theorem ix8 {z : Nat → Int} {k : IntKind} (q : Nat) (hq : q < 8) (w : World) : (Instr.index 39 (.agg #[.int .u8 (z 0), .int .u8 (z 1), .int .u8 (z 2), .int .u8 (z 3), .int .u8 (z 4), .int .u8 (z 5), .int .u8 (z 6), .int .u8 (z 7)]) (.int k (q : Int))).run Tryd.prog w = .ok (.int .u8 (z q)) w :=
  run_index_agg Tryd.underlying39 (by kernel_rfl) (by omega) (by omega) (iArr_at .u8 8 z q hq) w
section
variable {w w' : World} {g : Nat} {z : Nat → Int} {l : Int} {L : List Nat}
def mmV (z : Nat → Int) (l : Int) (j : Nat) : Value := .int .u8 (if j < 8 then z j else l)
theorem mmC_v (z : Nat → Int) (l : Int) : mmC z l = vArr 9 (mmV z l) := rfl
theorem kp8 {a : World} (h : Kp L a w) (hg : g ∈ L) (V : Nat → Value) : Kp L a (Go.Proofs.YtmbbcfdeielopaaDoorRRRR.put8 w g V) := (((((((h.setCell (p := ⟨g, 0, none⟩) (.inl hg) _).setCell (p := ⟨g, 1, none⟩) (.inl hg) _).setCell (p := ⟨g, 2, none⟩) (.inl hg) _).setCell (p := ⟨g, 3, none⟩) (.inl hg) _).setCell (p := ⟨g, 4, none⟩) (.inl hg) _).setCell (p := ⟨g, 5, none⟩) (.inl hg) _).setCell (p := ⟨g, 6, none⟩) (.inl hg) _).setCell (p := ⟨g, 7, none⟩) (.inl hg) _
/-- The physical address of a logical one. -/
def phI (z : Nat → Int) (a : Int) : Int := z (a.toNat / 8192) * 8192 + a % 8192
end
end Go.Proofs.YtmbbcfdeielopaaDoorRRRR
