/-
  The statements' first test of package latch holds.
-/
import Derived.Test.YtjedlldmmnacbaaLat4
namespace Go.Proofs.Ytjedlldmmnacbaa
open Go.RowKit
set_option linter.unusedVariables false
set_option maxRecDepth 100000
theorem lread_v {w : World} {g : Nat} {v m b u : Int} (h : LT w g v) (e : mixI v m b = u) :
    Calls Try.prog 27 #[.pointer (some ⟨g, 0, none⟩), .int .u8 m, .int .u8 b] w (LReadR g u w) := e ▸ lread_any h m b
theorem lread_nil_v {w : World} {m b u : Int} (e : mixI 0 m b = u) :
    Calls Try.prog 27 #[.pointer none, .int .u8 m, .int .u8 b] w fun e w' => e = .returned (.int .u8 u) ∧ w = w' := e ▸ lread_nil m b w
theorem last_v {w : World} {A : Option Addr} {n c : Nat} {ps : Nat → Int × Int} {cs : Array Value} (R : I2Row w .u8 .u8 A n ps) (hn : n ≤ 1000) (e : iArr .i64 8 (lastTo ps n) = cs) :
    Calls Try.prog 30 #[.slice A n c] w fun e w' => e = .returned (.agg cs) ∧ Below w.heap.size w w' := e ▸ last_any R hn
def psL (i : Nat) : Int × Int := if i = 0 then (15, 0) else (3, 0)
set_option maxHeartbeats 2000000 in
theorem liveL_any (w : World) : Calls Try.prog 24 #[] w fun e w' => e = .returned (.bool true) ∧ Below w.heap.size w w' := by
  have heq : ∀ W, (binOp .eql 59 (.agg #[.int .i64 1, .int .i64 1, .int .i64 0, .int .i64 0, .int .i64 (-1), .int .i64 (-1), .int .i64 (-1), .int .i64 (-1)]) (.agg #[.int .i64 1, .int .i64 1, .int .i64 0, .int .i64 0, .int .i64 (-1), .int .i64 (-1), .int .i64 (-1), .int .i64 (-1)])).run Try.prog W = .ok (.bool true) W := fun W => by kernel_rfl
  go_enter Try.func24, Try.ntmps24
  go_wp2_with fail
  refine (lnew_any _ _).mono ?_
  rintro e w1 ⟨rfl, rfl⟩
  have h1 : LT (w.alloc (.cells #[.int .u8 128] 77)) w.heap.size 128 := Blk.new w _ _
  have hB1 : Below w.heap.size w (w.alloc (.cells #[.int .u8 128] 77)) := (Below.refl _ _).alloc (Nat.le_refl _) _
  have H1 := Lib.hid h1
  have HB1 := Lib.hid hB1
  generalize w.alloc _ = w1 at *
  generalize hgg : w.heap.size = g at *
  have HGG := Lib.hid hgg
  clear h1 hB1 hgg
  go_wp2_with fail
  refine (lread_v (u := 146) H1.out (by decide)).mono ?_
  rintro e w2 ⟨rfl, h2, k2⟩
  have H2 := Lib.hid h2
  have HB2 := Lib.hid (k2.onto HB1.out (by have := HB1.out.size; rw [HGG.out] at this; exact this) (by simp))
  clear h2 k2
  go_wp2_with fail
  refine (value_any H2.out).mono ?_
  rintro e w' ⟨rfl, rfl⟩
  go_wp2_with fail
  refine (lwrite_any H2.out _).mono ?_
  rintro e w3 ⟨rfl, rfl⟩
  have H3 := Lib.hid (H2.out.set 3)
  have HB3 := Lib.hid (HB2.out.setCell (p := ⟨g, 0, none⟩) (Nat.le_refl _) (.int .u8 3))
  generalize w2.setCell _ _ = w3 at *
  go_wp2_with fail
  refine (lwrite_nil _ _).mono ?_
  rintro e w' ⟨rfl, rfl⟩
  go_wp2_with fail
  have hs3 : g ≤ w3.heap.size := by have := HB3.out.size; rw [HGG.out] at this; exact this
  have hR : I2Row (w3.alloc (.cells #[.int .u8 15, .int .u8 0, .int .u8 3, .int .u8 0] 57)) .u8 .u8 (some ⟨w3.heap.size, 0, none⟩) 2 psL := fun i hi => by
    have hb := Blk.new w3 57 #[.int .u8 15, .int .u8 0, .int .u8 3, .int .u8 0]
    refine ⟨_, rfl, by simp, ?_, ?_, ?_⟩
    · rw [add_zero_block, hb.cell]
      rcases i with _ | _ | i
      · rfl
      · rfl
      · omega
    · rw [add_zero_block, hb.cell]
      rcases i with _ | _ | i
      · rfl
      · rfl
      · omega
    · rcases i with _ | _ | i
      · decide
      · decide
      · omega
  refine (last_v (cs := #[.int .i64 1, .int .i64 1, .int .i64 0, .int .i64 0, .int .i64 (-1), .int .i64 (-1), .int .i64 (-1), .int .i64 (-1)]) hR (by decide) (by rfl)).mono ?_
  rintro e w4 ⟨rfl, hb4⟩
  have hb4' := ((Below.refl w3.heap.size w3).alloc (Nat.le_refl _) (.cells #[.int .u8 15, .int .u8 0, .int .u8 3, .int .u8 0] 57)).trans (hb4.mono (by simp))
  have H4 : Hid (LT w4 g 3) := Lib.hid (Blk.below H3.out hb4' (H3.out.lt))
  have HB4 := Lib.hid (HB3.out.trans (hb4'.mono hs3))
  have hs4 : g ≤ w4.heap.size := by have := HB4.out.size; rw [HGG.out] at this; exact this
  clear hb4 hb4' hR
  go_wp2_with fail
  refine (value_any (H4.out.alloc _)).mono ?_
  rintro e w' ⟨rfl, rfl⟩
  go_wp2_with fail
  refine (value_nil _).mono ?_
  rintro e w' ⟨rfl, rfl⟩
  go_wp2_with fail
  refine (lread_nil_v (u := 5) (by decide)).mono ?_
  rintro e w' ⟨rfl, rfl⟩
  go_wp2_with fail
  go_ret
  exact ⟨rfl, by rw [HGG.out]; exact HB4.out.alloc hs4 _⟩
end Go.Proofs.Ytjedlldmmnacbaa
