/-
  The statements' first test of package timer holds; timers and the reference's go on alike.
-/
import Derived.Test.YtbdmpgpdnnjmpaaTim4
import Derived.Test.YtbdmpgpdnnjmpaaG20
import Derived.Deep.Cut
import Derived.Deep.CutRange
namespace Go.Proofs.Ytbdmpgpdnnjmpaa
open Go.RowKit
set_option linter.unusedVariables false
set_option linter.unusedSimpArgs false
set_option maxRecDepth 100000
/-- A timer by itself. -/
def T0 (w : World) (g : Nat) (s : Tm) : Prop := TM w g 69 (Array.replicate 4 .nilFunc) 0 s
section
variable {w : World} {g : Nat} {s s' : Tm} {v : Value}
def T0R (v : Value) (g : Nat) (s : Tm) (w : World) (e : Ending) (w' : World) : Prop := e = .returned v ∧ T0 w' g s ∧ Kp [g] w w'
theorem twrite_v (h : T0 w g s) {reg b : Int} (b0 : 0 ≤ b) (b1 : b ≤ 255) (e : s.wr reg b = s') :
    Calls Try.prog 19 #[.pointer (some ⟨g, 0, none⟩), .int .i64 reg, .int .u8 b] w (T0R (.tuple #[]) g s' w) := e ▸ twrite_any h reg b b0 b1
theorem tgo_v (h : T0 w g s) {n : Int} (hn : n ≤ 9223372036854775807) {x : Int} (e : s.goN n.toNat = s') (ex : (s.overN n.toNat : Int) = x) :
    Calls Try.prog 20 #[.pointer (some ⟨g, 0, none⟩), .int .i64 n] w (T0R (.int .i64 x) g s' w) := by
  subst e ex
  exact tgo_any h n hn
theorem tcounter_v (h : T0 w g s) {x : Int} (e : (s.c : Int) = x) : Calls Try.prog 17 #[.pointer (some ⟨g, 0, none⟩)] w fun e w' => e = .returned (.int .u8 x) ∧ w = w' := e ▸ tcounter_any h
theorem treload_v (h : T0 w g s) {x : Int} (e : (s.r : Int) = x) : Calls Try.prog 35 #[.pointer (some ⟨g, 0, none⟩)] w fun e w' => e = .returned (.int .u8 x) ∧ w = w' := e ▸ treload_any h
theorem tleft_v (h : T0 w g s) {x : Int} (e : 3072 - (s.gone : Int) = x) : Calls Try.prog 18 #[.pointer (some ⟨g, 0, none⟩)] w fun e w' => e = .returned (.int .i64 x) ∧ w = w' := e ▸ tleft_any h
theorem ton_v (h : T0 w g s) {x : Bool} (e : s.on = x) : Calls Try.prog 22 #[.pointer (some ⟨g, 0, none⟩)] w fun e w' => e = .returned (.bool x) ∧ w = w' := e ▸ ton_any h
theorem tuntil_v (h : T0 w g s) (e : s.till = v) : Calls Try.prog 21 #[.pointer (some ⟨g, 0, none⟩)] w fun e w' => e = .returned v ∧ Kp [] w w' := e ▸ tuntil_any h
theorem T0.new (hs : s.ok) (w : World) : T0 (w.alloc (.cells #[.int .i64 s.gone, .int .u8 s.c, .int .u8 s.r, .bool s.on] 69)) w.heap.size s := tmC_new _ _ _ _ s rfl rfl rfl rfl hs w
end
set_option maxHeartbeats 4000000 in
theorem liveT_any (w : World) : Calls Try.prog 10 #[] w fun e w' => e = .returned (.bool true) ∧ Below w.heap.size w w' := by
  go_enter Try.func10, Try.ntmps10
  go_wp2_with fail
  refine (tnew_any _).mono ?_
  rintro e w1 ⟨rfl, t1, b1⟩
  have T1 : Hid (T0 w1 w.heap.size Tm.new) := Lib.hid t1
  have B1 := Lib.hid b1
  clear t1 b1
  generalize hgg : w.heap.size = g at *
  have HGG := Lib.hid hgg
  clear hgg
  go_wp2_with fail
  refine (twrite_v T1.out (by omega) (by omega) (s' := ⟨0, 0, 1, false⟩) (by kernel_rfl)).mono ?_
  rintro e w2 ⟨rfl, t2, k2⟩
  have T2 := Lib.hid t2
  have B2 : Hid (Below g w w2) := Lib.hid (k2.onto B1.out (Nat.le_of_lt (TM.lt T1.out)) (by simp))
  clear t2 k2 T1 B1
  go_wp2_with fail
  refine (twrite_v T2.out (by omega) (by omega) (s' := ⟨0, 1, 1, true⟩) (by kernel_rfl)).mono ?_
  rintro e w3 ⟨rfl, t3, k3⟩
  have T3 := Lib.hid t3
  have B3 : Hid (Below g w w3) := Lib.hid (k3.onto B2.out (Nat.le_of_lt (TM.lt T2.out)) (by simp))
  clear t3 k3 T2 B2
  go_wp2_with fail
  refine (tclone_any T3.out).mono ?_
  rintro e w4 ⟨rfl, t4, b4⟩
  have hg3 : g < w3.heap.size := TM.lt T3.out
  have T4 : Hid (T0 w4 g ⟨0, 1, 1, true⟩) := Lib.hid (TM.keep T3.out b4 hg3)
  have U4 : Hid (T0 w4 w3.heap.size ⟨0, 1, 1, true⟩) := Lib.hid t4
  have B4 : Hid (Below g w w4) := Lib.hid (B3.out.trans (b4.mono (Nat.le_of_lt hg3)))
  clear t4 b4 T3 B3
  generalize w3.heap.size = u at *
  go_wp2_with fail
  refine (tgo_v T4.out (by omega) (s' := ⟨0, 1, 1, true⟩) (x := 1) (by kernel_rfl) (by kernel_rfl)).mono ?_
  rintro e w5 ⟨rfl, t5, k5⟩
  have T5 := Lib.hid t5
  have U5 : Hid (T0 w5 u ⟨0, 1, 1, true⟩) := Lib.hid (TM.kp U4.out k5 (by simp; omega))
  have B5 : Hid (Below g w w5) := Lib.hid (k5.onto B4.out (Nat.le_of_lt (TM.lt T4.out)) (by simp))
  clear t5 k5 T4 U4 B4
  go_wp2_with fail
  refine (tgo_v U5.out (by omega) (s' := ⟨3071, 0, 1, true⟩) (x := 0) (by kernel_rfl) (by kernel_rfl)).mono ?_
  rintro e w6 ⟨rfl, t6, k6⟩
  have U6 := Lib.hid t6
  have T6 : Hid (T0 w6 g ⟨0, 1, 1, true⟩) := Lib.hid (TM.kp T5.out k6 (by simp; omega))
  have B6 : Hid (Below g w w6) := Lib.hid (k6.onto B5.out (Nat.le_of_lt (TM.lt T5.out)) (by simp; omega))
  clear t6 k6 T5 U5 B5
  go_wp2_with fail
  refine (twrite_nil _ _ _).mono ?_
  rintro e w' ⟨rfl, rfl⟩
  go_wp2_with fail
  refine (tuntil_nil _).mono ?_
  rintro e w' ⟨rfl, rfl⟩
  go_wp2_with fail
  refine (tcounter_v T6.out (x := 1) rfl).mono ?_
  rintro e w' ⟨rfl, rfl⟩
  go_wp2_with fail
  refine (tcounter_v U6.out (x := 0) rfl).mono ?_
  rintro e w' ⟨rfl, rfl⟩
  go_wp2_with fail
  refine (tleft_v U6.out (x := 1) rfl).mono ?_
  rintro e w' ⟨rfl, rfl⟩
  go_wp2_with fail
  refine (tgo_nil _ _).mono ?_
  rintro e w' ⟨rfl, rfl⟩
  go_wp2_with fail
  refine (tclone_nil _).mono ?_
  rintro e w' ⟨rfl, rfl⟩
  go_wp2_with fail
  refine (tleft_nil _).mono ?_
  rintro e w' ⟨rfl, rfl⟩
  go_wp2_with fail
  refine (ton_nil _).mono ?_
  rintro e w' ⟨rfl, rfl⟩
  go_wp2_with fail
  refine (tcounter_nil _).mono ?_
  rintro e w' ⟨rfl, rfl⟩
  go_wp2_with fail
  refine (treload_nil _).mono ?_
  rintro e w' ⟨rfl, rfl⟩
  go_wp2_with fail
  go_ret
  exact ⟨rfl, by rw [HGG.out]; exact B6.out⟩
end Go.Proofs.Ytbdmpgpdnnjmpaa
