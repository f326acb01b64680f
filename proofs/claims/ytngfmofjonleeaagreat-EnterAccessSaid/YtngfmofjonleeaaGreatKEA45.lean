/-
  Texts of these proofs, one behind the other: Mmu3, Mmu4, Mmu5.
-/
import Derived.Test.YtngfmofjonleeaaGreatKEA44
import Derived.Test.YtngfmofjonleeaaGreatKEA21
import Derived.Test.YtngfmofjonleeaaGreatKEA05
import Derived.Test.YtngfmofjonleeaaGreatKEA03
namespace Go.Proofs.YtngfmofjonleeaaGreat
open Go.RowKit
set_option linter.unusedVariables false
set_option linter.unusedSimpArgs false
set_option maxRecDepth 100000
def mmC (z : Nat → Int) (l : Int) : Array Value := #[.int .u8 (z 0), .int .u8 (z 1), .int .u8 (z 2), .int .u8 (z 3), .int .u8 (z 4), .int .u8 (z 5), .int .u8 (z 6), .int .u8 (z 7), .int .u8 l]
/-- Pages' banks, and what was moved last, lie in g. -/
def MM (w : World) (g : Nat) (z : Nat → Int) (l : Int) : Prop := Blk w g 163 (mmC z l)
theorem ix8 {z : Nat → Int} {k : IntKind} (q : Nat) (hq : q < 8) (w : World) : (Instr.index 23 (.agg #[.int .u8 (z 0), .int .u8 (z 1), .int .u8 (z 2), .int .u8 (z 3), .int .u8 (z 4), .int .u8 (z 5), .int .u8 (z 6), .int .u8 (z 7)]) (.int k (q : Int))).run Tryz.prog w = .ok (.int .u8 (z q)) w :=
  run_index_agg Tryz.underlying23 (by kernel_rfl) (by omega) (by omega) (iArr_at .u8 8 z q hq) w
section
variable {w w' : World} {g : Nat} {z : Nat → Int} {l : Int} {L : List Nat}
theorem MM.kp (h : MM w g z l) (k : Kp L w w') (hg : g ∉ L) : MM w' g z l := Blk.kp h k hg
theorem MM.below {B : Nat} (h : MM w g z l) (hb : Below B w w') (hg : g < B) : MM w' g z l := Blk.below h hb hg
theorem MM.lt_ (h : MM w g z l) : g < w.heap.size := Blk.lt h
def mmV (z : Nat → Int) (l : Int) (j : Nat) : Value := .int .u8 (if j < 8 then z j else l)
theorem mmC_v (z : Nat → Int) (l : Int) : mmC z l = vArr 9 (mmV z l) := rfl
def MmN (z : Nat → Int) (l : Int) (w : World) (e : Ending) (w' : World) : Prop := ∃ g, e = .returned (.pointer (some ⟨g, 0, none⟩)) ∧ w.heap.size ≤ g ∧ MM w' g z l ∧ Below w.heap.size w w'
theorem mof_any (z : Nat → Int) (l : Int) (w : World) : Calls Tryz.prog 33 #[.agg #[.int .u8 (z 0), .int .u8 (z 1), .int .u8 (z 2), .int .u8 (z 3), .int .u8 (z 4), .int .u8 (z 5), .int .u8 (z 6), .int .u8 (z 7)], .int .u8 l] w (MmN z l w) := by
  have hB : Below w.heap.size w ((w.alloc (.cells #[.int .u8 (z 0), .int .u8 (z 1), .int .u8 (z 2), .int .u8 (z 3), .int .u8 (z 4), .int .u8 (z 5), .int .u8 (z 6), .int .u8 (z 7)] 23)).alloc (.cells #[.int .u8 (z 0), .int .u8 (z 1), .int .u8 (z 2), .int .u8 (z 3), .int .u8 (z 4), .int .u8 (z 5), .int .u8 (z 6), .int .u8 (z 7), .int .u8 l] 163)) := ((Below.refl _ w).alloc (Nat.le_refl _) _).alloc (by simp) _
  have h1 : MM ((w.alloc (.cells #[.int .u8 (z 0), .int .u8 (z 1), .int .u8 (z 2), .int .u8 (z 3), .int .u8 (z 4), .int .u8 (z 5), .int .u8 (z 6), .int .u8 (z 7)] 23)).alloc (.cells #[.int .u8 (z 0), .int .u8 (z 1), .int .u8 (z 2), .int .u8 (z 3), .int .u8 (z 4), .int .u8 (z 5), .int .u8 (z 6), .int .u8 (z 7), .int .u8 l] 163)) (w.heap.size + 1) z l := Blk.new_ (by simp)
  have HB := Lib.hid hB
  have H1 := Lib.hid h1
  clear hB h1
  go_enter Tryz.func33, Tryz.ntmps33
  go_wp2
  go_ret
  exact ⟨_, rfl, by omega, H1.out, HB.out⟩
theorem banks_any (h : MM w g z l) : Calls Tryz.prog 63 #[.pointer (some ⟨g, 0, none⟩)] w fun e w' => e = .returned (.agg (p8 z)) ∧ Below w.heap.size w w' := by
  have c0 : w.cell? ⟨g, 0, none⟩ = some (.int .u8 (z 0)) := h.cell 0
  have c1 : w.cell? ⟨g, 1, none⟩ = some (.int .u8 (z 1)) := h.cell 1
  have c2 : w.cell? ⟨g, 2, none⟩ = some (.int .u8 (z 2)) := h.cell 2
  have c3 : w.cell? ⟨g, 3, none⟩ = some (.int .u8 (z 3)) := h.cell 3
  have c4 : w.cell? ⟨g, 4, none⟩ = some (.int .u8 (z 4)) := h.cell 4
  have c5 : w.cell? ⟨g, 5, none⟩ = some (.int .u8 (z 5)) := h.cell 5
  have c6 : w.cell? ⟨g, 6, none⟩ = some (.int .u8 (z 6)) := h.cell 6
  have c7 : w.cell? ⟨g, 7, none⟩ = some (.int .u8 (z 7)) := h.cell 7
  have c8 : w.cell? ⟨g, 8, none⟩ = some (.int .u8 l) := h.cell 8
  have hB : Below w.heap.size w (w.alloc (.cells #[.int .u8 (z 0), .int .u8 (z 1), .int .u8 (z 2), .int .u8 (z 3), .int .u8 (z 4), .int .u8 (z 5), .int .u8 (z 6), .int .u8 (z 7)] 23)) := (Below.refl _ w).alloc (Nat.le_refl _) _
  have hl := h.lt_
  have HB := Lib.hid hB
  clear hB h
  go_enter Tryz.func63, Tryz.ntmps63
  go_wp2
  refine bodyPost_ret (v := .agg (p8 z)) (results_cell (a := ⟨w.heap.size, 0, none⟩) Tryz.results63 (by rfl) ((Blk.new w 23 (p8 z)).run_load Tryz.underlying23 rfl info8)) rfl ?_
  exact ⟨rfl, HB.out⟩
/-- The physical address of a logical one. -/
def phI (z : Nat → Int) (a : Int) : Int := z (a.toNat / 8192) * 8192 + a % 8192
theorem mphys_of {p : Option Addr} (hb : Calls Tryz.prog 63 #[.pointer p] w fun e w' => e = .returned (.agg (p8 z)) ∧ Below w.heap.size w w') (hz : ∀ i, i < 8 → 0 ≤ z i ∧ z i ≤ 255) (a : Int) (a0 : 0 ≤ a) (a1 : a ≤ 65535) :
    Calls Tryz.prog 34 #[.pointer p, .int .u16 a] w fun e w' => e = .returned (.int .u32 (phI z a)) ∧ Below w.heap.size w w' := by
  have HBK := Lib.hid hb
  obtain ⟨q, hq⟩ : ∃ q, a.toNat / 8192 = q := ⟨_, rfl⟩
  have hq8 : q < 8 := by omega
  have hqw : IntKind.u16.wrap (a.tdiv 8192) = (q : Int) := by rw [Int.tdiv_eq_ediv_of_nonneg a0, IntWalk.u16_in _ (by omega)]; omega
  obtain ⟨b0, b1⟩ := hz q hq8
  have hix := ix8 (z := z) (k := .u16) q hq8
  have hr : phI z a = z q * 8192 + a % 8192 := by unfold phI; rw [hq]
  have HR := Lib.hid hr
  have HZ := Lib.hid (hz q hq8)
  rw [hr]
  clear hb hq hz hr
  go_enter Tryz.func34, Tryz.ntmps34
  go_wp2_with fail
  refine HBK.out.mono ?_
  rw [show p8 z = #[.int .u8 (z 0), .int .u8 (z 1), .int .u8 (z 2), .int .u8 (z 3), .int .u8 (z 4), .int .u8 (z 5), .int .u8 (z 6), .int .u8 (z 7)] from rfl]
  rintro e w1 ⟨rfl, b1⟩
  have HB1 := Lib.hid b1
  clear b1
  go_wp2_with fail
  refine (addr_any (z q) a _ HZ.out.1 HZ.out.2 a0 a1).mono ?_
  rintro e w' ⟨rfl, rfl⟩
  go_wp2_with fail
  go_ret
  exact ⟨rfl, HB1.out⟩
theorem mstack_any (b : Int) (b0 : 0 ≤ b) (b1 : b ≤ 255) (w : World) : Calls Tryz.prog 87 #[.int .u8 b] w fun e w' => e = .returned (.int .u16 (8448 + b)) ∧ w = w' := by
  go_enter Tryz.func87, Tryz.ntmps87
  go_wp2
  go_ret
  exact ⟨rfl, rfl⟩
end
end Go.Proofs.YtngfmofjonleeaaGreat
namespace Go.Proofs.YtngfmofjonleeaaGreat
open Go.RowKit Go.Shelf
set_option linter.unusedVariables false
set_option linter.unusedSimpArgs false
set_option maxRecDepth 100000
attribute [local go_sem] Oper.semAt_some
section
variable {w w' : World} {g : Nat} {z : Nat → Int} {l : Int}
end
end Go.Proofs.YtngfmofjonleeaaGreat
namespace Go.Proofs.YtngfmofjonleeaaGreat
open Go.RowKit Go.Shelf
set_option linter.unusedVariables false
set_option linter.unusedSimpArgs false
set_option maxRecDepth 100000
attribute [local go_sem] Oper.semAt_some
/-- In the block b lie n numbers of 16 bits. -/
def Tab16 (w : World) (b n : Nat) (f : Nat → Int) : Prop := b < w.heap.size ∧ ∀ k, k < n → w.cell? ⟨b, k, none⟩ = some (.int .u16 (f k))
section
variable {w w' : World} {b n : Nat} {f : Nat → Int} {L : List Nat}
theorem Tab16.keep {B : Nat} (h : Tab16 w b n f) (hb : Below B w w') (hB : b < B) : Tab16 w' b n f := ⟨Nat.lt_of_lt_of_le h.1 hb.size, fun k hk => (World.cell?_of_block (hb.block b hB)).trans (h.2 k hk)⟩
theorem Tab16.below (h : Tab16 w b n f) (hb : Below w.heap.size w w') : Tab16 w' b n f := h.keep hb h.1
theorem Tab16.kp (h : Tab16 w b n f) (k : Kp L w w') (hL : b ∉ L) : Tab16 w' b n f := ⟨Nat.lt_of_lt_of_le h.1 k.size, fun j hj => (k.cell h.1 hL).trans (h.2 j hj)⟩
end
/-- The three places. -/
def prt (k : Nat) : Int := match k with | 0 => 0 | 1 => 2 | _ => 3
end Go.Proofs.YtngfmofjonleeaaGreat
