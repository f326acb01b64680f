/-
  The interrupts' controller: Goes, Name; the statements' live.
-/
import Derived.Test.YtjknjlkjpccibaaIrq7
namespace Go.Proofs.Ytjknjlkjpccibaa
open Go.RowKit
set_option linter.unusedVariables false
set_option linter.unusedSimpArgs false
set_option maxRecDepth 100000
theorem inI_no {k : Int} (h : ¬ (1 ≤ k ∧ k ≤ 5)) : inI k 1 = false := decide_eq_false h
theorem goes_no {k : Int} (w : World) (h : ¬ (1 ≤ k ∧ k ≤ 5)) :
    Calls Try.prog 18 #[.int .u8 k] w fun e w' => e = .returned (.tuple #[.int .u16 0, .bool false]) ∧ w = w' := by
  have hin := inI_no h
  clear h
  go_enter Try.func18, Try.ntmps18
  go_wp2_with (go_at_call 40; refine (within_v hin).mono ?_; rintro e w' ⟨rfl, rfl⟩)
  go_ret2
  exact ⟨rfl, rfl⟩
theorem name_no {k : Int} (w : World) (h : ¬ (1 ≤ k ∧ k ≤ 5)) :
    Calls Try.prog 19 #[.int .u8 k] w fun e w' => e = .returned (.string ⟨#[]⟩) ∧ Below w.heap.size w w' := by
  have hin := inI_no h
  clear h
  go_enter Try.func19, Try.ntmps19
  go_wp2_with (go_at_call 40; refine (within_v hin).mono ?_; rintro e w' ⟨rfl, rfl⟩)
  go_ret
  exact ⟨rfl, Below.refl _ _⟩
def nameB (k : Nat) : ByteArray := if k = 1 then ⟨#[114, 101, 115, 101, 116]⟩ else if k = 2 then ⟨#[110, 109, 105]⟩ else if k = 3 then ⟨#[116, 105, 109, 101, 114]⟩ else if k = 4 then ⟨#[105, 114, 113, 49]⟩ else ⟨#[105, 114, 113, 50]⟩
theorem goes_yes (k : Nat) (w : World) (h : 1 ≤ k ∧ k ≤ 5) :
    Calls Try.prog 18 #[.int .u8 k] w fun e w' => e = .returned (.tuple #[.int .u16 (65536 - 2 * k), .bool true]) ∧ w = w' := by
  have hin : inI k 1 = true := decide_eq_true (by omega)
  have : k = 1 ∨ k = 2 ∨ k = 3 ∨ k = 4 ∨ k = 5 := by omega
  clear h
  rcases this with rfl | rfl | rfl | rfl | rfl
  all_goals
    go_enter Try.func18, Try.ntmps18
    go_wp2_with (go_at_call 40; refine (within_v hin).mono ?_; rintro e w' ⟨rfl, rfl⟩)
    go_ret2
    exact ⟨rfl, rfl⟩
theorem name_yes (k : Nat) (w : World) (h : 1 ≤ k ∧ k ≤ 5) :
    Calls Try.prog 19 #[.int .u8 k] w fun e w' => e = .returned (.string (nameB k)) ∧ Below w.heap.size w w' := by
  have hin : inI k 1 = true := decide_eq_true (by omega)
  have : k = 1 ∨ k = 2 ∨ k = 3 ∨ k = 4 ∨ k = 5 := by omega
  clear h
  rcases this with rfl | rfl | rfl | rfl | rfl
  all_goals
    go_enter Try.func19, Try.ntmps19
    go_wp2_with (go_at_call 40; refine (within_v hin).mono ?_; rintro e w' ⟨rfl, rfl⟩)
    go_ret
    exact ⟨rfl, (Below.refl _ _).alloc (Nat.le_refl _) _⟩
/-- A controller by itself, whatever was there ahead being kept. -/
def QB (B : Nat) (W : World) (g : Nat) (s : Iq) (w : World) : Prop := IQ w g 74 (Array.replicate 2 .nilFunc) 0 s ∧ Below B W w ∧ B ≤ w.heap.size ∧ B ≤ g
section
variable {B g : Nat} {W w w' : World} {s s' : Iq}
theorem QB.on (h : QB B W g s w) (k : Below w.heap.size w w') : QB B W g s w' := ⟨h.1.keep k h.1.lt, h.2.1.trans (k.mono h.2.2.1), Nat.le_trans h.2.2.1 k.size, h.2.2.2⟩
theorem QB.go (h : QB B W g s w) (h1 : IQ w' g 74 (Array.replicate 2 .nilFunc) 0 s') (k : Kp [g] w w') : QB B W g s' w' := ⟨h1, k.onto h.2.1 h.2.2.1 (by simpa using h.2.2.2), Nat.le_trans h.2.2.1 k.size, h.2.2.2⟩
theorem QB.kp0 (h : QB B W g s w) (k : Kp [] w w') : QB B W g s w' := ⟨h.1.kp k (by simp), k.onto h.2.1 h.2.2.1 (by simp), Nat.le_trans h.2.2.1 k.size, h.2.2.2⟩
end
section
variable {w : World} {g : Nat} {T : TypeId} {cs : Array Value} {o : Nat} {s : Iq}
theorem qchoose_v (h : IQ w g T cs o s) {u0 u1 u2 u3 m : Bool} {x : Int} (e : chI s.d s.due u0 u1 u2 u3 m = x) :
    Calls Try.prog 14 #[.pointer (some ⟨g, o, none⟩), .agg #[.bool u0, .bool u1, .bool u2, .bool u3], .bool m] w fun e w' => e = .returned (.int .u8 x) ∧ Below w.heap.size w w' := e ▸ qchoose_any h u0 u1 u2 u3 m
theorem qstatus_v (h : IQ w g T cs o s) {u2 u3 : Bool} {x : Int} (e : stV s.due u2 u3 = x) :
    Calls Try.prog 17 #[.pointer (some ⟨g, o, none⟩), .bool u2, .bool u3] w fun e w' => e = .returned (.int .u8 x) ∧ Below w.heap.size w w' := e ▸ qstatus_any h u2 u3
theorem qdisable_v (h : IQ w g T cs o s) {x : Int} (e : (s.d : Int) = x) : Calls Try.prog 12 #[.pointer (some ⟨g, o, none⟩)] w fun e w' => e = .returned (.int .u8 x) ∧ w = w' := e ▸ qdisable_any h
theorem qdue_v (h : IQ w g T cs o s) {x : Bool} (e : s.due = x) : Calls Try.prog 13 #[.pointer (some ⟨g, o, none⟩)] w fun e w' => e = .returned (.bool x) ∧ w = w' := e ▸ qdue_any h
theorem qwrite_v (h : IQ w g T cs o s) {reg b : Int} (b0 : 0 ≤ b) (b1 : b ≤ 255) {s' : Iq} (e : s.wr reg b = s') :
    Calls Try.prog 33 #[.pointer (some ⟨g, o, none⟩), .int .i64 reg, .int .u8 b] w (IqR (.tuple #[]) g T cs o s' w) := e ▸ qwrite_any h reg b b0 b1
theorem qchoose_nv {u0 u1 u2 u3 m : Bool} {x : Int} (e : chI 0 false u0 u1 u2 u3 m = x) :
    Calls Try.prog 14 #[.pointer none, .agg #[.bool u0, .bool u1, .bool u2, .bool u3], .bool m] w fun e w' => e = .returned (.int .u8 x) ∧ Below w.heap.size w w' := e ▸ qchoose_nil w u0 u1 u2 u3 m
theorem qstatus_nv {u2 u3 : Bool} {x : Int} (e : stV false u2 u3 = x) :
    Calls Try.prog 17 #[.pointer none, .bool u2, .bool u3] w fun e w' => e = .returned (.int .u8 x) ∧ Below w.heap.size w w' := e ▸ qstatus_nil w u2 u3
end
set_option maxHeartbeats 4000000 in
theorem liveI_any (w : World) : Calls Try.prog 8 #[] w fun e w' => e = .returned (.bool true) ∧ Below w.heap.size w w' := by
  obtain ⟨B, hB⟩ : ∃ B, w.heap.size = B := ⟨_, rfl⟩
  have HB := Lib.hid hB
  go_enter Try.func8, Try.ntmps8
  go_wp2_with fail
  refine (qnew_any _).mono ?_
  rintro e w1 ⟨rfl, h1, b1⟩
  rw [hB] at h1 b1
  have s1 : B ≤ w1.heap.size := hB ▸ b1.size
  have T1 : Hid (QB B w B ⟨0, false⟩ w1) := Lib.hid ⟨h1, b1, s1, Nat.le_refl _⟩
  simp only [hB]
  clear h1 b1 s1 hB
  go_wp2_with fail
  refine (qover_any T1.out.1).mono ?_
  rintro e w2 ⟨rfl, h2, k2⟩
  have T2 : Hid (QB B w B ⟨0, true⟩ w2) := Lib.hid (T1.out.go h2 k2)
  clear h2 k2 T1
  go_wp2_with fail
  have T3 := Lib.hid (T2.out.on ((Below.refl w2.heap.size w2).alloc (Nat.le_refl _) (.cells #[.bool false, .bool false, .bool true, .bool true] 32)))
  have A3 := Lib.hid (Blk.new w2 32 #[.bool false, .bool false, .bool true, .bool true])
  refine (qchoose_v T3.out.1 (x := 3) (by decide)).mono ?_
  rintro e w4 ⟨rfl, b4⟩
  have T4 := Lib.hid (T3.out.on b4)
  have A4 := Lib.hid (A3.out.below b4 A3.out.lt)
  clear b4 T2 T3 A3
  generalize w2.heap.size = ga at *
  go_wp2_with fail
  refine (qwrite_v T4.out.1 (by decide) (by decide) (s' := ⟨4, true⟩) (by rfl)).mono ?_
  rintro e w5 ⟨rfl, h5, k5⟩
  have hne : B ≠ ga := T4.out.1.1.ne_ A4.out (by decide)
  have T5 := Lib.hid (T4.out.go h5 k5)
  have A5 := Lib.hid (A4.out.kp k5 (by simpa using hne.symm))
  clear h5 k5 T4 A4
  have c0 : w5.cell? ⟨ga, 0, none⟩ = some (.bool false) := A5.out.cell 0
  have c1 : w5.cell? ⟨ga, 1, none⟩ = some (.bool false) := A5.out.cell 1
  have c2 : w5.cell? ⟨ga, 2, none⟩ = some (.bool true) := A5.out.cell 2
  have c3 : w5.cell? ⟨ga, 3, none⟩ = some (.bool true) := A5.out.cell 3
  go_wp2_with fail
  refine (qchoose_v T5.out.1 (x := 4) (by decide)).mono ?_
  rintro e w6 ⟨rfl, b6⟩
  have T6 := Lib.hid (T5.out.on b6)
  have A6 := Lib.hid (A5.out.below b6 A5.out.lt)
  clear b6 T5 A5 c0 c1 c2 c3
  go_wp2_with fail
  refine (goes_yes 5 w6 (by decide)).mono ?_
  rintro e w' ⟨rfl, rfl⟩
  go_wp2_with fail
  refine (qwrite_nil _ _ _).mono ?_
  rintro e w' ⟨rfl, rfl⟩
  go_wp2_with fail
  refine (qover_nil _).mono ?_
  rintro e w' ⟨rfl, rfl⟩
  go_wp2_with fail
  refine (qdisable_v T6.out.1 (x := 4) rfl).mono ?_
  rintro e w' ⟨rfl, rfl⟩
  go_wp2_with fail
  refine (qdue_v T6.out.1 (x := true) rfl).mono ?_
  rintro e w' ⟨rfl, rfl⟩
  go_wp2_with fail
  refine (qstatus_v T6.out.1 (x := 6) (by decide)).mono ?_
  rintro e w7 ⟨rfl, b7⟩
  have T7 := Lib.hid (T6.out.on b7)
  have A7 := Lib.hid (A6.out.below b7 A6.out.lt)
  clear b7 T6 A6
  go_wp2_with fail
  refine (name_yes 2 w7 (by decide)).mono ?_
  rintro e w8 ⟨rfl, b8⟩
  have T8 := Lib.hid (T7.out.on b8)
  have A8 := Lib.hid (A7.out.below b8 A7.out.lt)
  clear b8 T7 A7
  simp only [nameB, if_pos]
  have c0 : w8.cell? ⟨ga, 0, none⟩ = some (.bool false) := A8.out.cell 0
  have c1 : w8.cell? ⟨ga, 1, none⟩ = some (.bool false) := A8.out.cell 1
  have c2 : w8.cell? ⟨ga, 2, none⟩ = some (.bool true) := A8.out.cell 2
  have c3 : w8.cell? ⟨ga, 3, none⟩ = some (.bool true) := A8.out.cell 3
  go_wp2_with fail
  refine (kbit_v (x := 2) (by decide) (by decide) (by decide)).mono ?_
  rintro e w' ⟨rfl, rfl⟩
  go_wp2_with fail
  refine (qchoose_nv (x := 4) (by decide)).mono ?_
  rintro e w9 ⟨rfl, b9⟩
  have T9 := Lib.hid (T8.out.on b9)
  have A9 := Lib.hid (A8.out.below b9 A8.out.lt)
  clear b9 T8 A8
  clear c0 c1 c2 c3
  go_wp2_with fail
  refine (qclone_nil _).mono ?_
  rintro e w' ⟨rfl, rfl⟩
  go_wp2_with fail
  refine (qdisable_nil _).mono ?_
  rintro e w' ⟨rfl, rfl⟩
  go_wp2_with fail
  refine (qdue_nil _).mono ?_
  rintro e w' ⟨rfl, rfl⟩
  go_wp2_with fail
  refine (qstatus_nv (x := 1) (by decide)).mono ?_
  rintro e w10 ⟨rfl, b10⟩
  have T10 := Lib.hid (T9.out.on b10)
  have A10 := Lib.hid (A9.out.below b10 A9.out.lt)
  clear b10 T9 A9
  go_wp2_with fail
  go_ret
  exact ⟨rfl, by rw [HB.out]; exact T10.out.2.1⟩
end Go.Proofs.Ytjknjlkjpccibaa
