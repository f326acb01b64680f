/-
  For every input IrqNever returns true, and each argument reads behind the call as it read before. No conditions.
-/
import Derived.Test.YtjknjlkjpccibaaRows
import Derived.Test.YtjknjlkjpccibaaG3
import Derived.Test.YtjknjlkjpccibaaIrq9
import Derived.Test.YtjknjlkjpccibaaA6
import Derived.Test.YtjknjlkjpccibaaG21
import Derived.Deep.Cut
import Derived.Deep.CutRange
import Derived.Deep.RegionHeld3
import Derived.Deep.RegionWith
import Derived.RegionTactic
import Derived.BigRegion
import Derived.LoopTactic
namespace Go.Proofs.Ytjknjlkjpccibaa.irqNever
open Go.ChangeShapes Go.WideShapes Go.ChangeAt Go.RowKit
open Go.ChangeMaps (open_string)

set_option linter.unusedVariables false
set_option linter.unusedSimpArgs false
theorem rbit_v {b n : Int} {x : Bool} {w : World} (e : rbit b n = x) (h0 : 0 ≤ b) (h1 : b ≤ 255) : Calls Try.prog 15 #[.int .u8 b, .int .i64 n] w fun e w' => e = .returned (.bool x) ∧ w = w' := e ▸ rbit_any b n w h0 h1
theorem rb2 : ∀ d : Fin 8, rbit (d.val : Int) 2 = !decide (d.val / 4 = 0) := by decide +kernel
theorem rb1 : ∀ d : Fin 8, rbit (d.val : Int) 1 = !decide (d.val / 2 % 2 = 0) := by decide +kernel
theorem rb0 : ∀ d : Fin 8, rbit (d.val : Int) 0 = !decide (d.val % 2 = 0) := by decide +kernel
theorem rb_no2 {d : Nat} (hk : d ≤ 7) (h : d / 4 = 0) : rbit (d : Int) 2 = false := by have := rb2 ⟨d, by omega⟩; rw [decide_eq_true (show (⟨d, by omega⟩ : Fin 8).val / 4 = 0 from h)] at this; exact this
theorem rb_yes2 {d : Nat} (hk : d ≤ 7) (h : ¬ d / 4 = 0) : rbit (d : Int) 2 = true := by have := rb2 ⟨d, by omega⟩; rw [decide_eq_false (show ¬ (⟨d, by omega⟩ : Fin 8).val / 4 = 0 from h)] at this; exact this
theorem rb_no1 {d : Nat} (hk : d ≤ 7) (h : d / 2 % 2 = 0) : rbit (d : Int) 1 = false := by have := rb1 ⟨d, by omega⟩; rw [decide_eq_true (show (⟨d, by omega⟩ : Fin 8).val / 2 % 2 = 0 from h)] at this; exact this
theorem rb_yes1 {d : Nat} (hk : d ≤ 7) (h : ¬ d / 2 % 2 = 0) : rbit (d : Int) 1 = true := by have := rb1 ⟨d, by omega⟩; rw [decide_eq_false (show ¬ (⟨d, by omega⟩ : Fin 8).val / 2 % 2 = 0 from h)] at this; exact this
theorem rb_no0 {d : Nat} (hk : d ≤ 7) (h : d % 2 = 0) : rbit (d : Int) 0 = false := by have := rb0 ⟨d, by omega⟩; rw [decide_eq_true (show (⟨d, by omega⟩ : Fin 8).val % 2 = 0 from h)] at this; exact this
theorem rb_yes0 {d : Nat} (hk : d ≤ 7) (h : ¬ d % 2 = 0) : rbit (d : Int) 0 = true := by have := rb0 ⟨d, by omega⟩; rw [decide_eq_false (show ¬ (⟨d, by omega⟩ : Fin 8).val % 2 = 0 from h)] at this; exact this
theorem st2 : ∀ u2 u3 : Bool, rbit (stV true u2 u3) 2 = true := by decide +kernel
theorem st1 : ∀ t u3 : Bool, rbit (stV t true u3) 1 = true := by decide +kernel
theorem st0 : ∀ t u2 : Bool, rbit (stV t u2 true) 0 = true := by decide +kernel
theorem stV_bd : ∀ t u2 u3 : Bool, 0 ≤ stV t u2 u3 ∧ stV t u2 u3 ≤ 255 := by decide +kernel
set_option maxRecDepth 100000 in
set_option maxHeartbeats 16000000 in
theorem walk {W : World} (A0 : Option Addr) (n0 c0 : Nat) (z0 : Nat → Int × Int) (hnc0 : n0 ≤ c0) (hm0 : c0 ≤ maxLen) (R0 : I2Row W .u8 .u8 A0 n0 z0) (z : Nat → Bool) (m : Bool) :
    Calls Try.prog 4 #[.slice A0 n0 c0, .agg #[.bool (z 0), .bool (z 1), .bool (z 2), .bool (z 3)], .bool m] W fun e w' => e = .returned (.bool true) ∧ Below W.heap.size W w' := by
  unfold maxLen at hm0
  have HR0 := Lib.hid R0
  clear R0
  generalize z 0 = u0
  generalize z 1 = u1
  generalize z 2 = u2
  generalize z 3 = u3
  have hb0 : Below W.heap.size W (W.alloc (.cells #[.bool u0, .bool u1, .bool u2, .bool u3] 32)) := (Below.refl _ _).alloc (Nat.le_refl _) _
  have a0 := Blk.new W 32 #[.bool u0, .bool u1, .bool u2, .bool u3]
  have HB0 := Lib.hid hb0
  have A0' := Lib.hid a0
  clear hb0 a0
  by_cases g1 : 60 < n0
  · have i1 : (60 : Int) < n0 := by omega
    go_enter Try.func4, Try.ntmps4
    go_wp2_with (go_at_call 8; refine (liveI_any _).mono ?_; rintro e w1 ⟨rfl, hB⟩)
    go_ret
    exact ⟨rfl, HB0.out.trans (hB.mono HB0.out.size)⟩
  have i1 : ¬ (60 : Int) < n0 := by omega
  go_enter Try.func4, Try.ntmps4
  go_wp2_with fail
  refine (liveI_any _).mono ?_
  rintro e w1 ⟨rfl, hB1⟩
  have HB1 := Lib.hid (HB0.out.trans (hB1.mono HB0.out.size))
  have A1 := Lib.hid (A0'.out.below hB1 A0'.out.lt)
  clear hB1 HB0 A0'
  go_wp2_with fail
  refine (qnew_any w1).mono ?_
  rintro e w2 ⟨rfl, t2, b2⟩
  have s1 := HB1.out.size
  have T2 : Hid (QB W.heap.size W w1.heap.size ⟨0, false⟩ w2) := Lib.hid ⟨t2, HB1.out.trans (b2.mono s1), Nat.le_trans s1 b2.size, s1⟩
  have A2 := Lib.hid (A1.out.below b2 A1.out.lt)
  have hWg : W.heap.size < w1.heap.size := A1.out.lt
  clear t2 b2 HB1 s1 A1
  generalize w1.heap.size = g at *
  go_wp2_with fail
  have HI3 : Hid (IPl W g w2.heap.size ⟨0, false⟩ (w2.alloc (.cells #[.int .u8 0, .bool false] 28))) := Lib.hid ⟨T2.out.on ((Below.refl _ _).alloc (Nat.le_refl _) _), ⟨Blk.new w2 _ _, by decide⟩, T2.out.2.2.1⟩
  have A3 := Lib.hid (A2.out.alloc (.cells #[.int .u8 0, .bool false] 28))
  have hWr : W.heap.size < w2.heap.size := A2.out.lt
  clear T2 A2
  generalize World.alloc _ _ = w3 at *
  generalize w2.heap.size = r at *
  refine (iplay_any HI3.out HR0.out (by omega)).mono ?_
  rintro e w4 ⟨rfl, ⟨⟨d, due⟩, h4⟩, k4⟩
  have HI4 := Lib.hid h4
  have A4 := Lib.hid (A3.out.kp k4 (by simp; omega))
  have hk : d ≤ 7 := h4.2.1.2
  have c0 : w4.cell? ⟨W.heap.size, 0, none⟩ = some (.bool u0) := A4.out.cell 0
  have c1 : w4.cell? ⟨W.heap.size, 1, none⟩ = some (.bool u1) := A4.out.cell 1
  have c2 : w4.cell? ⟨W.heap.size, 2, none⟩ = some (.bool u2) := A4.out.cell 2
  have c3 : w4.cell? ⟨W.heap.size, 3, none⟩ = some (.bool u3) := A4.out.cell 3
  clear h4 HI3 A3 k4
  go_wp2_with fail
  clear c0 c1 c2 c3
  cases u0 with
  | true =>
    have hx : chI d due true u1 u2 u3 m = 1 := by unfold chI; simp [*]
    refine (qchoose_v HI4.out.1.1 hx).mono ?_
    rintro e w5 ⟨rfl, b5⟩
    have HI5 := Lib.hid (HI4.out.on b5)
    have A5 := Lib.hid (A4.out.below b5 A4.out.lt)
    have c0 : w5.cell? ⟨W.heap.size, 0, none⟩ = some (.bool true) := A5.out.cell 0
    have c1 : w5.cell? ⟨W.heap.size, 1, none⟩ = some (.bool u1) := A5.out.cell 1
    have c2 : w5.cell? ⟨W.heap.size, 2, none⟩ = some (.bool u2) := A5.out.cell 2
    have c3 : w5.cell? ⟨W.heap.size, 3, none⟩ = some (.bool u3) := A5.out.cell 3
    clear b5 HI4 A4 hx
    go_wp2_with fail
    go_ret
    exact ⟨by simp, HI5.out.1.2.1⟩
  | false =>
    cases u1 with
    | true =>
      have hx : chI d due false true u2 u3 m = 2 := by unfold chI; simp [*]
      refine (qchoose_v HI4.out.1.1 hx).mono ?_
      rintro e w5 ⟨rfl, b5⟩
      have HI5 := Lib.hid (HI4.out.on b5)
      have A5 := Lib.hid (A4.out.below b5 A4.out.lt)
      have c0 : w5.cell? ⟨W.heap.size, 0, none⟩ = some (.bool false) := A5.out.cell 0
      have c1 : w5.cell? ⟨W.heap.size, 1, none⟩ = some (.bool true) := A5.out.cell 1
      have c2 : w5.cell? ⟨W.heap.size, 2, none⟩ = some (.bool u2) := A5.out.cell 2
      have c3 : w5.cell? ⟨W.heap.size, 3, none⟩ = some (.bool u3) := A5.out.cell 3
      clear b5 HI4 A4 hx
      go_wp2_with fail
      go_ret
      exact ⟨by simp, HI5.out.1.2.1⟩
    | false =>
      cases m with
      | true =>
        have hx : chI d due false false u2 u3 true = 0 := by unfold chI; simp [*]
        refine (qchoose_v HI4.out.1.1 hx).mono ?_
        rintro e w5 ⟨rfl, b5⟩
        have HI5 := Lib.hid (HI4.out.on b5)
        have A5 := Lib.hid (A4.out.below b5 A4.out.lt)
        have c0 : w5.cell? ⟨W.heap.size, 0, none⟩ = some (.bool false) := A5.out.cell 0
        have c1 : w5.cell? ⟨W.heap.size, 1, none⟩ = some (.bool false) := A5.out.cell 1
        have c2 : w5.cell? ⟨W.heap.size, 2, none⟩ = some (.bool u2) := A5.out.cell 2
        have c3 : w5.cell? ⟨W.heap.size, 3, none⟩ = some (.bool u3) := A5.out.cell 3
        clear b5 HI4 A4 hx
        go_wp2_with (first | (go_at_call 13; refine (qdue_v HI5.out.1.1 rfl).mono ?_; rintro e w' ⟨rfl, rfl⟩) | (go_at_call 12; refine (qdisable_v HI5.out.1.1 rfl).mono ?_; rintro e w' ⟨rfl, rfl⟩) | (go_at_call 15; refine (rbit_any _ _ _ (by omega) (by omega)).mono ?_; rintro e w' ⟨rfl, rfl⟩))
        go_ret
        exact ⟨by simp, HI5.out.1.2.1⟩
      | false =>
        cases due with
        | true =>
          by_cases x4 : d / 4 = 0
          · have hx : chI d true false false u2 u3 false = 3 := by unfold chI; simp [*]
            refine (qchoose_v HI4.out.1.1 hx).mono ?_
            rintro e w5 ⟨rfl, b5⟩
            have HI5 := Lib.hid (HI4.out.on b5)
            have A5 := Lib.hid (A4.out.below b5 A4.out.lt)
            have c0 : w5.cell? ⟨W.heap.size, 0, none⟩ = some (.bool false) := A5.out.cell 0
            have c1 : w5.cell? ⟨W.heap.size, 1, none⟩ = some (.bool false) := A5.out.cell 1
            have c2 : w5.cell? ⟨W.heap.size, 2, none⟩ = some (.bool u2) := A5.out.cell 2
            have c3 : w5.cell? ⟨W.heap.size, 3, none⟩ = some (.bool u3) := A5.out.cell 3
            clear b5 HI4 A4 hx
            go_wp2_with (first | (go_at_call 13; refine (qdue_v HI5.out.1.1 rfl).mono ?_; rintro e w' ⟨rfl, rfl⟩) | (go_at_call 12; refine (qdisable_v HI5.out.1.1 rfl).mono ?_; rintro e w' ⟨rfl, rfl⟩) | (go_at_call 16; refine (kbit_v (x := 2) (by decide) (by decide) (by decide)).mono ?_; rintro e w' ⟨rfl, rfl⟩) | (go_at_call 15; refine (rbit_v (rb_no2 hk x4) (by omega) (by omega)).mono ?_; rintro e w' ⟨rfl, rfl⟩))
            refine (qstatus_v HI5.out.1.1 rfl).mono ?_
            rintro e w6 ⟨rfl, b6⟩
            have HI6 := Lib.hid (HI5.out.on b6)
            obtain ⟨y0, y1⟩ := stV_bd true u2 u3
            go_wp2_with (first | (go_at_call 16; refine (kbit_v (x := 2) (by decide) (by decide) (by decide)).mono ?_; rintro e w' ⟨rfl, rfl⟩) | (go_at_call 15; refine (rbit_v (st2 u2 u3) y0 y1).mono ?_; rintro e w' ⟨rfl, rfl⟩))
            go_ret
            exact ⟨by simp, HI6.out.1.2.1⟩
          · cases u2 with
            | true =>
              by_cases x2 : d / 2 % 2 = 0
              · have hx : chI d true false false true u3 false = 4 := by unfold chI; simp [*]
                refine (qchoose_v HI4.out.1.1 hx).mono ?_
                rintro e w5 ⟨rfl, b5⟩
                have HI5 := Lib.hid (HI4.out.on b5)
                have A5 := Lib.hid (A4.out.below b5 A4.out.lt)
                have c0 : w5.cell? ⟨W.heap.size, 0, none⟩ = some (.bool false) := A5.out.cell 0
                have c1 : w5.cell? ⟨W.heap.size, 1, none⟩ = some (.bool false) := A5.out.cell 1
                have c2 : w5.cell? ⟨W.heap.size, 2, none⟩ = some (.bool true) := A5.out.cell 2
                have c3 : w5.cell? ⟨W.heap.size, 3, none⟩ = some (.bool u3) := A5.out.cell 3
                clear b5 HI4 A4 hx
                go_wp2_with (first | (go_at_call 13; refine (qdue_v HI5.out.1.1 rfl).mono ?_; rintro e w' ⟨rfl, rfl⟩) | (go_at_call 12; refine (qdisable_v HI5.out.1.1 rfl).mono ?_; rintro e w' ⟨rfl, rfl⟩) | (go_at_call 16; refine (kbit_v (x := 1) (by decide) (by decide) (by decide)).mono ?_; rintro e w' ⟨rfl, rfl⟩) | (go_at_call 15; refine (rbit_v (rb_no1 hk x2) (by omega) (by omega)).mono ?_; rintro e w' ⟨rfl, rfl⟩))
                refine (qstatus_v HI5.out.1.1 rfl).mono ?_
                rintro e w6 ⟨rfl, b6⟩
                have HI6 := Lib.hid (HI5.out.on b6)
                obtain ⟨y0, y1⟩ := stV_bd true true u3
                go_wp2_with (first | (go_at_call 16; refine (kbit_v (x := 1) (by decide) (by decide) (by decide)).mono ?_; rintro e w' ⟨rfl, rfl⟩) | (go_at_call 15; refine (rbit_v (st1 true u3) y0 y1).mono ?_; rintro e w' ⟨rfl, rfl⟩))
                go_ret
                exact ⟨by simp, HI6.out.1.2.1⟩
              · cases u3 with
                | true =>
                  by_cases x1 : d % 2 = 0
                  · have hx : chI d true false false true true false = 5 := by unfold chI; simp [*]
                    refine (qchoose_v HI4.out.1.1 hx).mono ?_
                    rintro e w5 ⟨rfl, b5⟩
                    have HI5 := Lib.hid (HI4.out.on b5)
                    have A5 := Lib.hid (A4.out.below b5 A4.out.lt)
                    have c0 : w5.cell? ⟨W.heap.size, 0, none⟩ = some (.bool false) := A5.out.cell 0
                    have c1 : w5.cell? ⟨W.heap.size, 1, none⟩ = some (.bool false) := A5.out.cell 1
                    have c2 : w5.cell? ⟨W.heap.size, 2, none⟩ = some (.bool true) := A5.out.cell 2
                    have c3 : w5.cell? ⟨W.heap.size, 3, none⟩ = some (.bool true) := A5.out.cell 3
                    clear b5 HI4 A4 hx
                    go_wp2_with (first | (go_at_call 13; refine (qdue_v HI5.out.1.1 rfl).mono ?_; rintro e w' ⟨rfl, rfl⟩) | (go_at_call 12; refine (qdisable_v HI5.out.1.1 rfl).mono ?_; rintro e w' ⟨rfl, rfl⟩) | (go_at_call 16; refine (kbit_v (x := 0) (by decide) (by decide) (by decide)).mono ?_; rintro e w' ⟨rfl, rfl⟩) | (go_at_call 15; refine (rbit_v (rb_no0 hk x1) (by omega) (by omega)).mono ?_; rintro e w' ⟨rfl, rfl⟩))
                    refine (qstatus_v HI5.out.1.1 rfl).mono ?_
                    rintro e w6 ⟨rfl, b6⟩
                    have HI6 := Lib.hid (HI5.out.on b6)
                    obtain ⟨y0, y1⟩ := stV_bd true true true
                    go_wp2_with (first | (go_at_call 16; refine (kbit_v (x := 0) (by decide) (by decide) (by decide)).mono ?_; rintro e w' ⟨rfl, rfl⟩) | (go_at_call 15; refine (rbit_v (st0 true true) y0 y1).mono ?_; rintro e w' ⟨rfl, rfl⟩))
                    go_ret
                    exact ⟨by simp, HI6.out.1.2.1⟩
                  · have hx : chI d true false false true true false = 0 := by unfold chI; simp [*]
                    refine (qchoose_v HI4.out.1.1 hx).mono ?_
                    rintro e w5 ⟨rfl, b5⟩
                    have HI5 := Lib.hid (HI4.out.on b5)
                    have A5 := Lib.hid (A4.out.below b5 A4.out.lt)
                    have c0 : w5.cell? ⟨W.heap.size, 0, none⟩ = some (.bool false) := A5.out.cell 0
                    have c1 : w5.cell? ⟨W.heap.size, 1, none⟩ = some (.bool false) := A5.out.cell 1
                    have c2 : w5.cell? ⟨W.heap.size, 2, none⟩ = some (.bool true) := A5.out.cell 2
                    have c3 : w5.cell? ⟨W.heap.size, 3, none⟩ = some (.bool true) := A5.out.cell 3
                    clear b5 HI4 A4 hx
                    have yx4 := rb_yes2 hk x4
                    have yx2 := rb_yes1 hk x2
                    have yx1 := rb_yes0 hk x1
                    go_wp2_with (first | (go_at_call 13; refine (qdue_v HI5.out.1.1 rfl).mono ?_; rintro e w' ⟨rfl, rfl⟩) | (go_at_call 12; refine (qdisable_v HI5.out.1.1 rfl).mono ?_; rintro e w' ⟨rfl, rfl⟩) | (go_at_call 15; refine (rbit_any _ _ _ (by omega) (by omega)).mono ?_; rintro e w' ⟨rfl, rfl⟩))
                    go_ret
                    exact ⟨by simp, HI5.out.1.2.1⟩
                | false =>
                  have hx : chI d true false false true false false = 0 := by unfold chI; simp [*]
                  refine (qchoose_v HI4.out.1.1 hx).mono ?_
                  rintro e w5 ⟨rfl, b5⟩
                  have HI5 := Lib.hid (HI4.out.on b5)
                  have A5 := Lib.hid (A4.out.below b5 A4.out.lt)
                  have c0 : w5.cell? ⟨W.heap.size, 0, none⟩ = some (.bool false) := A5.out.cell 0
                  have c1 : w5.cell? ⟨W.heap.size, 1, none⟩ = some (.bool false) := A5.out.cell 1
                  have c2 : w5.cell? ⟨W.heap.size, 2, none⟩ = some (.bool true) := A5.out.cell 2
                  have c3 : w5.cell? ⟨W.heap.size, 3, none⟩ = some (.bool false) := A5.out.cell 3
                  clear b5 HI4 A4 hx
                  have yx4 := rb_yes2 hk x4
                  have yx2 := rb_yes1 hk x2
                  go_wp2_with (first | (go_at_call 13; refine (qdue_v HI5.out.1.1 rfl).mono ?_; rintro e w' ⟨rfl, rfl⟩) | (go_at_call 12; refine (qdisable_v HI5.out.1.1 rfl).mono ?_; rintro e w' ⟨rfl, rfl⟩) | (go_at_call 15; refine (rbit_any _ _ _ (by omega) (by omega)).mono ?_; rintro e w' ⟨rfl, rfl⟩))
                  go_ret
                  exact ⟨by simp, HI5.out.1.2.1⟩
            | false =>
              cases u3 with
              | true =>
                by_cases x1 : d % 2 = 0
                · have hx : chI d true false false false true false = 5 := by unfold chI; simp [*]
                  refine (qchoose_v HI4.out.1.1 hx).mono ?_
                  rintro e w5 ⟨rfl, b5⟩
                  have HI5 := Lib.hid (HI4.out.on b5)
                  have A5 := Lib.hid (A4.out.below b5 A4.out.lt)
                  have c0 : w5.cell? ⟨W.heap.size, 0, none⟩ = some (.bool false) := A5.out.cell 0
                  have c1 : w5.cell? ⟨W.heap.size, 1, none⟩ = some (.bool false) := A5.out.cell 1
                  have c2 : w5.cell? ⟨W.heap.size, 2, none⟩ = some (.bool false) := A5.out.cell 2
                  have c3 : w5.cell? ⟨W.heap.size, 3, none⟩ = some (.bool true) := A5.out.cell 3
                  clear b5 HI4 A4 hx
                  go_wp2_with (first | (go_at_call 13; refine (qdue_v HI5.out.1.1 rfl).mono ?_; rintro e w' ⟨rfl, rfl⟩) | (go_at_call 12; refine (qdisable_v HI5.out.1.1 rfl).mono ?_; rintro e w' ⟨rfl, rfl⟩) | (go_at_call 16; refine (kbit_v (x := 0) (by decide) (by decide) (by decide)).mono ?_; rintro e w' ⟨rfl, rfl⟩) | (go_at_call 15; refine (rbit_v (rb_no0 hk x1) (by omega) (by omega)).mono ?_; rintro e w' ⟨rfl, rfl⟩))
                  refine (qstatus_v HI5.out.1.1 rfl).mono ?_
                  rintro e w6 ⟨rfl, b6⟩
                  have HI6 := Lib.hid (HI5.out.on b6)
                  obtain ⟨y0, y1⟩ := stV_bd true false true
                  go_wp2_with (first | (go_at_call 16; refine (kbit_v (x := 0) (by decide) (by decide) (by decide)).mono ?_; rintro e w' ⟨rfl, rfl⟩) | (go_at_call 15; refine (rbit_v (st0 true false) y0 y1).mono ?_; rintro e w' ⟨rfl, rfl⟩))
                  go_ret
                  exact ⟨by simp, HI6.out.1.2.1⟩
                · have hx : chI d true false false false true false = 0 := by unfold chI; simp [*]
                  refine (qchoose_v HI4.out.1.1 hx).mono ?_
                  rintro e w5 ⟨rfl, b5⟩
                  have HI5 := Lib.hid (HI4.out.on b5)
                  have A5 := Lib.hid (A4.out.below b5 A4.out.lt)
                  have c0 : w5.cell? ⟨W.heap.size, 0, none⟩ = some (.bool false) := A5.out.cell 0
                  have c1 : w5.cell? ⟨W.heap.size, 1, none⟩ = some (.bool false) := A5.out.cell 1
                  have c2 : w5.cell? ⟨W.heap.size, 2, none⟩ = some (.bool false) := A5.out.cell 2
                  have c3 : w5.cell? ⟨W.heap.size, 3, none⟩ = some (.bool true) := A5.out.cell 3
                  clear b5 HI4 A4 hx
                  have yx4 := rb_yes2 hk x4
                  have yx1 := rb_yes0 hk x1
                  go_wp2_with (first | (go_at_call 13; refine (qdue_v HI5.out.1.1 rfl).mono ?_; rintro e w' ⟨rfl, rfl⟩) | (go_at_call 12; refine (qdisable_v HI5.out.1.1 rfl).mono ?_; rintro e w' ⟨rfl, rfl⟩) | (go_at_call 15; refine (rbit_any _ _ _ (by omega) (by omega)).mono ?_; rintro e w' ⟨rfl, rfl⟩))
                  go_ret
                  exact ⟨by simp, HI5.out.1.2.1⟩
              | false =>
                have hx : chI d true false false false false false = 0 := by unfold chI; simp [*]
                refine (qchoose_v HI4.out.1.1 hx).mono ?_
                rintro e w5 ⟨rfl, b5⟩
                have HI5 := Lib.hid (HI4.out.on b5)
                have A5 := Lib.hid (A4.out.below b5 A4.out.lt)
                have c0 : w5.cell? ⟨W.heap.size, 0, none⟩ = some (.bool false) := A5.out.cell 0
                have c1 : w5.cell? ⟨W.heap.size, 1, none⟩ = some (.bool false) := A5.out.cell 1
                have c2 : w5.cell? ⟨W.heap.size, 2, none⟩ = some (.bool false) := A5.out.cell 2
                have c3 : w5.cell? ⟨W.heap.size, 3, none⟩ = some (.bool false) := A5.out.cell 3
                clear b5 HI4 A4 hx
                have yx4 := rb_yes2 hk x4
                go_wp2_with (first | (go_at_call 13; refine (qdue_v HI5.out.1.1 rfl).mono ?_; rintro e w' ⟨rfl, rfl⟩) | (go_at_call 12; refine (qdisable_v HI5.out.1.1 rfl).mono ?_; rintro e w' ⟨rfl, rfl⟩) | (go_at_call 15; refine (rbit_any _ _ _ (by omega) (by omega)).mono ?_; rintro e w' ⟨rfl, rfl⟩))
                go_ret
                exact ⟨by simp, HI5.out.1.2.1⟩
        | false =>
          cases u2 with
          | true =>
            by_cases x2 : d / 2 % 2 = 0
            · have hx : chI d false false false true u3 false = 4 := by unfold chI; simp [*]
              refine (qchoose_v HI4.out.1.1 hx).mono ?_
              rintro e w5 ⟨rfl, b5⟩
              have HI5 := Lib.hid (HI4.out.on b5)
              have A5 := Lib.hid (A4.out.below b5 A4.out.lt)
              have c0 : w5.cell? ⟨W.heap.size, 0, none⟩ = some (.bool false) := A5.out.cell 0
              have c1 : w5.cell? ⟨W.heap.size, 1, none⟩ = some (.bool false) := A5.out.cell 1
              have c2 : w5.cell? ⟨W.heap.size, 2, none⟩ = some (.bool true) := A5.out.cell 2
              have c3 : w5.cell? ⟨W.heap.size, 3, none⟩ = some (.bool u3) := A5.out.cell 3
              clear b5 HI4 A4 hx
              go_wp2_with (first | (go_at_call 13; refine (qdue_v HI5.out.1.1 rfl).mono ?_; rintro e w' ⟨rfl, rfl⟩) | (go_at_call 12; refine (qdisable_v HI5.out.1.1 rfl).mono ?_; rintro e w' ⟨rfl, rfl⟩) | (go_at_call 16; refine (kbit_v (x := 1) (by decide) (by decide) (by decide)).mono ?_; rintro e w' ⟨rfl, rfl⟩) | (go_at_call 15; refine (rbit_v (rb_no1 hk x2) (by omega) (by omega)).mono ?_; rintro e w' ⟨rfl, rfl⟩))
              refine (qstatus_v HI5.out.1.1 rfl).mono ?_
              rintro e w6 ⟨rfl, b6⟩
              have HI6 := Lib.hid (HI5.out.on b6)
              obtain ⟨y0, y1⟩ := stV_bd false true u3
              go_wp2_with (first | (go_at_call 16; refine (kbit_v (x := 1) (by decide) (by decide) (by decide)).mono ?_; rintro e w' ⟨rfl, rfl⟩) | (go_at_call 15; refine (rbit_v (st1 false u3) y0 y1).mono ?_; rintro e w' ⟨rfl, rfl⟩))
              go_ret
              exact ⟨by simp, HI6.out.1.2.1⟩
            · cases u3 with
              | true =>
                by_cases x1 : d % 2 = 0
                · have hx : chI d false false false true true false = 5 := by unfold chI; simp [*]
                  refine (qchoose_v HI4.out.1.1 hx).mono ?_
                  rintro e w5 ⟨rfl, b5⟩
                  have HI5 := Lib.hid (HI4.out.on b5)
                  have A5 := Lib.hid (A4.out.below b5 A4.out.lt)
                  have c0 : w5.cell? ⟨W.heap.size, 0, none⟩ = some (.bool false) := A5.out.cell 0
                  have c1 : w5.cell? ⟨W.heap.size, 1, none⟩ = some (.bool false) := A5.out.cell 1
                  have c2 : w5.cell? ⟨W.heap.size, 2, none⟩ = some (.bool true) := A5.out.cell 2
                  have c3 : w5.cell? ⟨W.heap.size, 3, none⟩ = some (.bool true) := A5.out.cell 3
                  clear b5 HI4 A4 hx
                  go_wp2_with (first | (go_at_call 13; refine (qdue_v HI5.out.1.1 rfl).mono ?_; rintro e w' ⟨rfl, rfl⟩) | (go_at_call 12; refine (qdisable_v HI5.out.1.1 rfl).mono ?_; rintro e w' ⟨rfl, rfl⟩) | (go_at_call 16; refine (kbit_v (x := 0) (by decide) (by decide) (by decide)).mono ?_; rintro e w' ⟨rfl, rfl⟩) | (go_at_call 15; refine (rbit_v (rb_no0 hk x1) (by omega) (by omega)).mono ?_; rintro e w' ⟨rfl, rfl⟩))
                  refine (qstatus_v HI5.out.1.1 rfl).mono ?_
                  rintro e w6 ⟨rfl, b6⟩
                  have HI6 := Lib.hid (HI5.out.on b6)
                  obtain ⟨y0, y1⟩ := stV_bd false true true
                  go_wp2_with (first | (go_at_call 16; refine (kbit_v (x := 0) (by decide) (by decide) (by decide)).mono ?_; rintro e w' ⟨rfl, rfl⟩) | (go_at_call 15; refine (rbit_v (st0 false true) y0 y1).mono ?_; rintro e w' ⟨rfl, rfl⟩))
                  go_ret
                  exact ⟨by simp, HI6.out.1.2.1⟩
                · have hx : chI d false false false true true false = 0 := by unfold chI; simp [*]
                  refine (qchoose_v HI4.out.1.1 hx).mono ?_
                  rintro e w5 ⟨rfl, b5⟩
                  have HI5 := Lib.hid (HI4.out.on b5)
                  have A5 := Lib.hid (A4.out.below b5 A4.out.lt)
                  have c0 : w5.cell? ⟨W.heap.size, 0, none⟩ = some (.bool false) := A5.out.cell 0
                  have c1 : w5.cell? ⟨W.heap.size, 1, none⟩ = some (.bool false) := A5.out.cell 1
                  have c2 : w5.cell? ⟨W.heap.size, 2, none⟩ = some (.bool true) := A5.out.cell 2
                  have c3 : w5.cell? ⟨W.heap.size, 3, none⟩ = some (.bool true) := A5.out.cell 3
                  clear b5 HI4 A4 hx
                  have yx2 := rb_yes1 hk x2
                  have yx1 := rb_yes0 hk x1
                  go_wp2_with (first | (go_at_call 13; refine (qdue_v HI5.out.1.1 rfl).mono ?_; rintro e w' ⟨rfl, rfl⟩) | (go_at_call 12; refine (qdisable_v HI5.out.1.1 rfl).mono ?_; rintro e w' ⟨rfl, rfl⟩) | (go_at_call 15; refine (rbit_any _ _ _ (by omega) (by omega)).mono ?_; rintro e w' ⟨rfl, rfl⟩))
                  go_ret
                  exact ⟨by simp, HI5.out.1.2.1⟩
              | false =>
                have hx : chI d false false false true false false = 0 := by unfold chI; simp [*]
                refine (qchoose_v HI4.out.1.1 hx).mono ?_
                rintro e w5 ⟨rfl, b5⟩
                have HI5 := Lib.hid (HI4.out.on b5)
                have A5 := Lib.hid (A4.out.below b5 A4.out.lt)
                have c0 : w5.cell? ⟨W.heap.size, 0, none⟩ = some (.bool false) := A5.out.cell 0
                have c1 : w5.cell? ⟨W.heap.size, 1, none⟩ = some (.bool false) := A5.out.cell 1
                have c2 : w5.cell? ⟨W.heap.size, 2, none⟩ = some (.bool true) := A5.out.cell 2
                have c3 : w5.cell? ⟨W.heap.size, 3, none⟩ = some (.bool false) := A5.out.cell 3
                clear b5 HI4 A4 hx
                have yx2 := rb_yes1 hk x2
                go_wp2_with (first | (go_at_call 13; refine (qdue_v HI5.out.1.1 rfl).mono ?_; rintro e w' ⟨rfl, rfl⟩) | (go_at_call 12; refine (qdisable_v HI5.out.1.1 rfl).mono ?_; rintro e w' ⟨rfl, rfl⟩) | (go_at_call 15; refine (rbit_any _ _ _ (by omega) (by omega)).mono ?_; rintro e w' ⟨rfl, rfl⟩))
                go_ret
                exact ⟨by simp, HI5.out.1.2.1⟩
          | false =>
            cases u3 with
            | true =>
              by_cases x1 : d % 2 = 0
              · have hx : chI d false false false false true false = 5 := by unfold chI; simp [*]
                refine (qchoose_v HI4.out.1.1 hx).mono ?_
                rintro e w5 ⟨rfl, b5⟩
                have HI5 := Lib.hid (HI4.out.on b5)
                have A5 := Lib.hid (A4.out.below b5 A4.out.lt)
                have c0 : w5.cell? ⟨W.heap.size, 0, none⟩ = some (.bool false) := A5.out.cell 0
                have c1 : w5.cell? ⟨W.heap.size, 1, none⟩ = some (.bool false) := A5.out.cell 1
                have c2 : w5.cell? ⟨W.heap.size, 2, none⟩ = some (.bool false) := A5.out.cell 2
                have c3 : w5.cell? ⟨W.heap.size, 3, none⟩ = some (.bool true) := A5.out.cell 3
                clear b5 HI4 A4 hx
                go_wp2_with (first | (go_at_call 13; refine (qdue_v HI5.out.1.1 rfl).mono ?_; rintro e w' ⟨rfl, rfl⟩) | (go_at_call 12; refine (qdisable_v HI5.out.1.1 rfl).mono ?_; rintro e w' ⟨rfl, rfl⟩) | (go_at_call 16; refine (kbit_v (x := 0) (by decide) (by decide) (by decide)).mono ?_; rintro e w' ⟨rfl, rfl⟩) | (go_at_call 15; refine (rbit_v (rb_no0 hk x1) (by omega) (by omega)).mono ?_; rintro e w' ⟨rfl, rfl⟩))
                refine (qstatus_v HI5.out.1.1 rfl).mono ?_
                rintro e w6 ⟨rfl, b6⟩
                have HI6 := Lib.hid (HI5.out.on b6)
                obtain ⟨y0, y1⟩ := stV_bd false false true
                go_wp2_with (first | (go_at_call 16; refine (kbit_v (x := 0) (by decide) (by decide) (by decide)).mono ?_; rintro e w' ⟨rfl, rfl⟩) | (go_at_call 15; refine (rbit_v (st0 false false) y0 y1).mono ?_; rintro e w' ⟨rfl, rfl⟩))
                go_ret
                exact ⟨by simp, HI6.out.1.2.1⟩
              · have hx : chI d false false false false true false = 0 := by unfold chI; simp [*]
                refine (qchoose_v HI4.out.1.1 hx).mono ?_
                rintro e w5 ⟨rfl, b5⟩
                have HI5 := Lib.hid (HI4.out.on b5)
                have A5 := Lib.hid (A4.out.below b5 A4.out.lt)
                have c0 : w5.cell? ⟨W.heap.size, 0, none⟩ = some (.bool false) := A5.out.cell 0
                have c1 : w5.cell? ⟨W.heap.size, 1, none⟩ = some (.bool false) := A5.out.cell 1
                have c2 : w5.cell? ⟨W.heap.size, 2, none⟩ = some (.bool false) := A5.out.cell 2
                have c3 : w5.cell? ⟨W.heap.size, 3, none⟩ = some (.bool true) := A5.out.cell 3
                clear b5 HI4 A4 hx
                have yx1 := rb_yes0 hk x1
                go_wp2_with (first | (go_at_call 13; refine (qdue_v HI5.out.1.1 rfl).mono ?_; rintro e w' ⟨rfl, rfl⟩) | (go_at_call 12; refine (qdisable_v HI5.out.1.1 rfl).mono ?_; rintro e w' ⟨rfl, rfl⟩) | (go_at_call 15; refine (rbit_any _ _ _ (by omega) (by omega)).mono ?_; rintro e w' ⟨rfl, rfl⟩))
                go_ret
                exact ⟨by simp, HI5.out.1.2.1⟩
            | false =>
              have hx : chI d false false false false false false = 0 := by unfold chI; simp [*]
              refine (qchoose_v HI4.out.1.1 hx).mono ?_
              rintro e w5 ⟨rfl, b5⟩
              have HI5 := Lib.hid (HI4.out.on b5)
              have A5 := Lib.hid (A4.out.below b5 A4.out.lt)
              have c0 : w5.cell? ⟨W.heap.size, 0, none⟩ = some (.bool false) := A5.out.cell 0
              have c1 : w5.cell? ⟨W.heap.size, 1, none⟩ = some (.bool false) := A5.out.cell 1
              have c2 : w5.cell? ⟨W.heap.size, 2, none⟩ = some (.bool false) := A5.out.cell 2
              have c3 : w5.cell? ⟨W.heap.size, 3, none⟩ = some (.bool false) := A5.out.cell 3
              clear b5 HI4 A4 hx
              go_wp2_with (first | (go_at_call 13; refine (qdue_v HI5.out.1.1 rfl).mono ?_; rintro e w' ⟨rfl, rfl⟩) | (go_at_call 12; refine (qdisable_v HI5.out.1.1 rfl).mono ?_; rintro e w' ⟨rfl, rfl⟩) | (go_at_call 15; refine (rbit_any _ _ _ (by omega) (by omega)).mono ?_; rintro e w' ⟨rfl, rfl⟩))
              go_ret
              exact ⟨by simp, HI5.out.1.2.1⟩

theorem own : ownKnob Try.prog.godebug = none := by kernel_rfl
theorem laidOut : laidOutB Try.prog = true := by kernel_rfl
set_option maxRecDepth 100000 in
theorem lifted (os : Os) (started : os.Started) (H : Type) (enc : TypeId × Value → H) :
    ReturnsInHanded {} Try.checked os 4 .any (Rows.irqNeverSpec.pre6 enc Try.prog Try.f4 Rows.irqNeverRow.domain false) (Rows.irqNeverSpec.post enc Try.prog Try.f4 false true false false) := by
  refine returnsInHanded_of_change (C := Try.checked) own started (by kernel_rfl) Try.func4
    (ChangeSpec.witness6 (enc := enc) (C := Try.checked) false ⟨#[], #[.slice none 0 0, .agg #[.bool false, .bool false, .bool false, .bool false], .bool false], []⟩ 8 (by kernel_rfl) (by kernel_rfl) (by kernel_rfl) (by kernel_rfl)) ?_
  intro W base args ds gs before hval0 hW _ _
  have hval : ∀ (j : Nat) t v, Try.f4.params[j]? = some t → args[j]? = some v → Value.okWide Try.prog W .any base t v := hval0
  have hW' := hW
  obtain ⟨p, q, hA0, hV, rfl, _, _⟩ := hW
  have hA : DataW.TrodAll enc Try.prog W 0 (fun _ => true) true Try.f4.params.toList args.toList ds p := hA0
  rw [Try.params4] at hA hval
  obtain ⟨v0, vs0, d0, ds0, p0, q0, hargs, rfl, rfl, h0, r0⟩ := trodAll_cons hA
  obtain ⟨v1, vs1, d1, ds1, p1, q1, rfl, rfl, rfl, h1, r1⟩ := trodAll_cons r0
  obtain ⟨v2, vs2, d2, ds2, p2, q2, rfl, rfl, rfl, h2, r2⟩ := trodAll_cons r1
  obtain ⟨rfl, rfl, rfl⟩ := trodAll_nil r2
  obtain rfl : args = #[v0, v1, v2] := by cases args; simp_all
  obtain ⟨rfl, rfl⟩ := trodVars_none hV
  obtain ⟨A0, n0, c0, z0, rfl, g0, m0, R0⟩ := slice_pairs Try.underlying22 Try.underlying76 (by kernel_rfl) (by kernel_rfl) Try.underlying5 Try.underlying5 (hval 0 22 v0 rfl rfl) h0
  obtain ⟨cs1, z1, rfl, s1, k1⟩ := array_bools Try.underlying32 Try.underlying4 (by kernel_rfl) (by kernel_rfl) (hval 1 32 v1 rfl rfl) h1
  obtain rfl := four_bools s1 k1
  obtain ⟨a2, rfl, rfl, rfl⟩ := open_bool Try.underlying4 (hval 2 4 v2 rfl rfl) h2
  clear hA0 hval0
  refine (walk A0 n0 c0 z0 g0 m0 R0 z1 a2).mono fun e W' ⟨he, hg⟩ => ?_
  subst he
  exact ⟨_, rfl, law_post rfl Try.underlying4 laidOut (by kernel_rfl) rfl hW' rfl hg⟩

theorem over : Rows.irqNeverRow.holds Try.pinned (OpenSpec.ofChange Rows.irqNeverSpec) :=
  OpenClaim.holds_of_wide 4 Try.f4 rfl rfl rfl rfl rfl rfl rfl ⟨rfl, rfl, rfl, rfl, rfl⟩ rfl rfl rfl rfl rfl (by kernel_rfl) Try.func4 (by kernel_rfl)
    (of_decide_eq_true (by kernel_rfl)) (by unfold Func.isWrapper; first | (rw [if_pos (by decide +kernel)]; kernel_rfl) | (rw [if_neg (by decide +kernel)]; exact ⟨rfl, rfl⟩))
    (fun os started H enc _ => lifted os started H enc)

theorem proved : Rows.IrqNeverSaid := over
#print axioms proved
end Go.Proofs.Ytjknjlkjpccibaa.irqNever
