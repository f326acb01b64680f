/-
  The statements' first test of package lines holds.
-/
import Derived.Test.YtjedlldmmnacbaaLin6
namespace Go.Proofs.Ytjedlldmmnacbaa
open Go.RowKit
set_option linter.unusedVariables false
set_option linter.unusedSimpArgs false
set_option maxRecDepth 100000
theorem to_v {w : World} {g n : Nat} {es : Nat → Iib} {s s' : Nat} {r r' : Bool} {t : Int} (h : LN w g n es s r) (hg : Good n es) (e1 : pass es n t s = s') (e2 : roseTo es r s (s' - s) = r') :
    Calls Try.prog 22 #[.pointer (some ⟨g, 0, none⟩), .int .i64 t] w (LnR (.tuple #[]) g n es s' r' w) := by
  subst e1 e2
  exact to_any h hg t
theorem up_v {w : World} {g n : Nat} {es : Nat → Iib} {s : Nat} {r b : Bool} {l : Int} (h : LN w g n es s r) (j : Nat) (hj : j ≤ 255) (hl : (j : Int) = l) (e : upV es s j = b) :
    Calls Try.prog 23 #[.pointer (some ⟨g, 0, none⟩), .int .u8 l] w fun e w' => e = .returned (.bool b) ∧ w = w' := by
  subst e hl
  exact up_any h j hj
theorem next_v {w : World} {g n : Nat} {es : Nat → Iib} {s : Nat} {r : Bool} {v : Value} (h : LN w g n es s r) (hn : n ≤ 1000) (e : nextV es n s = v) :
    Calls Try.prog 34 #[.pointer (some ⟨g, 0, none⟩)] w (fun e w' => e = .returned v ∧ Kp [] w w') := e ▸ next_any h hn
theorem at_v {w : World} {A : Option Addr} {n c : Nat} {es : Nat → Iib} {l t : Int} {b : Bool} (R : ERow w A n es) (hn : n ≤ 9223372036854775807) (e : upTo es (pass es n t 0) l = b) :
    Calls Try.prog 15 #[.slice A n c, .int .u8 l, .int .i64 t] w fun e w' => e = .returned (.bool b) ∧ Below w.heap.size w w' := e ▸ at_any R hn l t
theorem check_v {w : World} {A : Option Addr} {n c : Nat} {es : Nat → Iib} {a b : Int} (R : ERow w A n es) (hc : n ≤ 9223372036854775807) (e : chk es n = (a, b)) :
    Calls Try.prog 14 #[.slice A n c] w fun e w' => e = .returned (.agg #[.int .i64 a, .int .i64 b]) ∧ Below w.heap.size w w' := by
  have h := check_any (c := c) R hc
  rw [e] at h
  exact h
theorem fieldF (a b : Int) (W : World) : (Instr.field 26 (.agg #[.int .i64 a, .int .i64 b]) 0).run Try.prog W = .ok (.int .i64 a) W := by kernel_rfl
def esL (i : Nat) : Iib := if i = 0 then ⟨5, 2, true⟩ else if i = 1 then ⟨9, 2, false⟩ else ⟨9, 1, true⟩
def esM (i : Nat) : Iib := ⟨0, 4, false⟩
theorem goodL : Good 3 esL := ⟨by omega, by decide, by decide⟩
/-- What the test holds: the edges, the lines of them, the fault. -/
def LvS (W : World) (gw g gf s : Nat) (r : Bool) (w : World) : Prop :=
  LN w g 3 esL s r ∧ Below gw W w ∧ ERow w (some ⟨gw, 0, none⟩) 3 esL ∧ Blk w gf 26 #[.int .i64 0, .int .i64 0] ∧ gw < g ∧ g < gf ∧ gw ≤ w.heap.size
theorem LvS.go {W w w' : World} {gw g gf s s' : Nat} {r r' : Bool} (h : LvS W gw g gf s r w) (h' : LN w' g 3 esL s' r') (k : Kp [g] w w') : LvS W gw g gf s' r' w' := by
  obtain ⟨h1, h2, h3, h4, h5, h6, h7⟩ := h
  refine ⟨h', k.onto h2 h7 (by simpa using Nat.le_of_lt h5), FRow.kp h3 k (by
    intro ad e hx
    cases e
    have hx' : gw = g := by simpa using hx
    omega), h4.kp k (by simp; omega), h5, h6, Nat.le_trans h7 k.size⟩
theorem LvS.keep {W w w' : World} {gw g gf s : Nat} {r : Bool} (h : LvS W gw g gf s r w) (k : Below w.heap.size w w') : LvS W gw g gf s r w' :=
  ⟨h.1.keep k, h.2.1.trans (k.mono h.2.2.2.2.2.2), FRow.keep h.2.2.1 k, h.2.2.2.1.below k h.2.2.2.1.lt, h.2.2.2.2.1, h.2.2.2.2.2.1, Nat.le_trans h.2.2.2.2.2.2 k.size⟩
theorem LvS.kp0 {W w w' : World} {gw g gf s : Nat} {r : Bool} (h : LvS W gw g gf s r w) (k : Kp [] w w') : LvS W gw g gf s r w' := h.go (h.1.kp k (fun x hx => by cases hx) (by simp)) (k.mono (by simp))
set_option maxHeartbeats 8000000 in
theorem liveN_any (w : World) : Calls Try.prog 11 #[] w fun e w' => e = .returned (.bool true) ∧ Below w.heap.size w w' := by
  have hfd := fieldF
  go_enter Try.func11, Try.ntmps11
  go_wp2_with fail
  have hB1 : Below w.heap.size w (w.alloc (.cells #[.int .i64 5, .int .u8 2, .bool true, .int .i64 9, .int .u8 2, .bool false, .int .i64 9, .int .u8 1, .bool true] 65)) := (Below.refl _ _).alloc (Nat.le_refl _) _
  have hR1 : ERow (w.alloc (.cells #[.int .i64 5, .int .u8 2, .bool true, .int .i64 9, .int .u8 2, .bool false, .int .i64 9, .int .u8 1, .bool true] 65)) (some ⟨w.heap.size, 0, none⟩) 3 esL := fun i hi => by
    have hb := Blk.new w 65 #[.int .i64 5, .int .u8 2, .bool true, .int .i64 9, .int .u8 2, .bool false, .int .i64 9, .int .u8 1, .bool true]
    refine ⟨_, rfl, by simp, fun j hj => ?_⟩
    rw [add_zero_block, hb.cell]
    have h1 : i = 0 ∨ i = 1 ∨ i = 2 := by omega
    have h2 : j = 0 ∨ j = 1 ∨ j = 2 := by omega
    rcases h1 with rfl | rfl | rfl <;> rcases h2 with rfl | rfl | rfl <;> rfl
  have z1 : w.heap.size < (w.alloc (.cells #[.int .i64 5, .int .u8 2, .bool true, .int .i64 9, .int .u8 2, .bool false, .int .i64 9, .int .u8 1, .bool true] 65)).heap.size := by simp
  have HB1 := Lib.hid hB1
  have HR1 := Lib.hid hR1
  clear hB1 hR1
  generalize w.alloc _ = w1 at *
  generalize hgg : w.heap.size = gw at *
  have HGG := Lib.hid hgg
  clear hgg
  refine (lnew_yes (fun x => by cases x) HR1.out (by decide) (by decide)).mono ?_
  rintro e w2 ⟨g, rfl, hg, h2, b2⟩
  have HB2 := Lib.hid (HB1.out.trans (b2.mono (Nat.le_of_lt z1)))
  have H2 := Lib.hid h2
  have HR2 := Lib.hid (FRow.keep HR1.out b2)
  have hgw : gw < g := by omega
  clear h2 b2 HB1 HR1
  go_wp2_with fail
  have hB3 : Below w2.heap.size w2 (w2.alloc (.cells #[.int .i64 0, .int .i64 0] 26)) := (Below.refl _ _).alloc (Nat.le_refl _) _
  have z2 : gw ≤ w2.heap.size := by have := H2.out.lt; omega
  have h3 : LvS w gw g w2.heap.size 0 false (w2.alloc (.cells #[.int .i64 0, .int .i64 0] 26)) :=
    ⟨H2.out.keep hB3, HB2.out.trans (hB3.mono z2), FRow.keep HR2.out hB3, Blk.new w2 _ _, hgw, H2.out.lt, by simp; omega⟩
  have H3 := Lib.hid h3
  clear hB3 H2 HB2 HR2 h3
  generalize w2.alloc _ = w3 at *
  generalize w2.heap.size = gf at *
  refine (to_v (s' := 1) (r' := false) H3.out.1 goodL (by decide) (by decide)).mono ?_
  rintro e w4 ⟨rfl, h4, k4⟩
  have H4 := Lib.hid (H3.out.go h4 k4)
  clear h4 k4 H3
  go_wp2_with fail
  refine (up_v H4.out.1 2 (by decide) rfl (b := true) (by decide)).mono ?_
  rintro e w' ⟨rfl, rfl⟩
  go_wp2_with fail
  refine (next_v H4.out.1 (by decide) (v := .tuple #[.int .i64 9, .bool true]) (by rfl)).mono ?_
  rintro e w5 ⟨rfl, k5⟩
  have H5 := Lib.hid (H4.out.kp0 k5)
  clear k5 H4
  go_wp2_with fail
  refine (to_v (s' := 3) (r' := true) H5.out.1 goodL (by decide) (by decide)).mono ?_
  rintro e w6 ⟨rfl, h6, k6⟩
  have H6 := Lib.hid (H5.out.go h6 k6)
  clear h6 k6 H5
  go_wp2_with fail
  refine (rose_any H6.out.1).mono ?_
  rintro e w' ⟨rfl, rfl⟩
  go_wp2_with fail
  refine (take_any H6.out.1).mono ?_
  rintro e w7 ⟨rfl, h7, k7⟩
  have H7 := Lib.hid (H6.out.go h7 k7)
  clear h7 k7 H6
  go_wp2_with fail
  refine (to_nil _ _).mono ?_
  rintro e w' ⟨rfl, rfl⟩
  go_wp2_with fail
  refine (take_nil _).mono ?_
  rintro e w' ⟨rfl, rfl⟩
  have hF := H7.out.2.2.2.1
  have c0 : w7.cell? ⟨gf, 0, none⟩ = some (.int .i64 0) := hF.cell 0
  have c1 : w7.cell? ⟨gf, 1, none⟩ = some (.int .i64 0) := hF.cell 1
  clear hF
  go_wp2_with fail
  refine (rose_any H7.out.1).mono ?_
  rintro e w' ⟨rfl, rfl⟩
  go_wp2_with fail
  refine (seen_any H7.out.1).mono ?_
  rintro e w' ⟨rfl, rfl⟩
  go_wp2_with fail
  refine (at_v H7.out.2.2.1 (by decide) (b := false) (by decide)).mono ?_
  rintro e w8 ⟨rfl, k8⟩
  have H8 := Lib.hid (H7.out.keep k8)
  clear k8 H7 c0 c1
  go_wp2_with fail
  refine (at_v H8.out.2.2.1 (by decide) (b := true) (by decide)).mono ?_
  rintro e w9 ⟨rfl, k9⟩
  have H9 := Lib.hid (H8.out.keep k9)
  clear k9 H8
  go_wp2_with fail
  have hB10 : Below w9.heap.size w9 (w9.alloc (.cells #[.int .i64 0, .int .u8 4, .bool false] 65)) := (Below.refl _ _).alloc (Nat.le_refl _) _
  have hR10 : ERow (w9.alloc (.cells #[.int .i64 0, .int .u8 4, .bool false] 65)) (some ⟨w9.heap.size, 0, none⟩) 1 esM := fun i hi => by
    have hb := Blk.new w9 65 #[.int .i64 0, .int .u8 4, .bool false]
    refine ⟨_, rfl, by simp, fun j hj => ?_⟩
    rw [add_zero_block, hb.cell]
    obtain rfl : i = 0 := by omega
    have h2 : j = 0 ∨ j = 1 ∨ j = 2 := by omega
    rcases h2 with rfl | rfl | rfl <;> rfl
  have H10 := Lib.hid (H9.out.keep hB10)
  refine (check_v hR10 (by decide) (a := 8) (b := 0) (by decide)).mono ?_
  rintro e w11 ⟨rfl, k11⟩
  have H11 := Lib.hid (H10.out.keep k11)
  clear k11 H10 H9 hR10 hB10
  go_wp2_with fail
  refine (up_nil _ _).mono ?_
  rintro e w' ⟨rfl, rfl⟩
  go_wp2_with fail
  refine (rose_nil _).mono ?_
  rintro e w' ⟨rfl, rfl⟩
  go_wp2_with fail
  refine (clone_nil _).mono ?_
  rintro e w' ⟨rfl, rfl⟩
  go_wp2_with fail
  refine (seen_nil _).mono ?_
  rintro e w' ⟨rfl, rfl⟩
  go_wp2_with fail
  go_ret
  exact ⟨by simp, by rw [HGG.out]; exact H11.out.2.1⟩
end Go.Proofs.Ytjedlldmmnacbaa
