/-
  The statements' first test of package noise holds; forms with named values.
-/
import Derived.Test.YtcnjekballnncaaNoi8
namespace Go.Proofs.Ytcnjekballnncaa
open Go.RowKit
set_option linter.unusedVariables false
set_option linter.unusedSimpArgs false
set_option maxRecDepth 100000
/-- Noise by itself. -/
def N0 (w : World) (g : Nat) (x : Nz) : Prop := NZ w g 72 (Array.replicate 3 .nilFunc) 0 x
section
variable {w : World} {g : Nat} {x x' : Nz} {T : TypeId} {cs : Array Value} {o : Nat}
theorem ngo_v (h : NZ w g T cs o x) {n : Int} (N : Nat) (en : n = (N : Int)) (hN : N ≤ 9223372036854775807) (e : x.go N = x') :
    Calls Try.prog 27 #[.pointer (some ⟨g, o, none⟩), .int .i64 n] w (NzR (.tuple #[]) g T cs o x' w) := by
  subst en e
  exact ngo_any h (N : Int) (by omega) (by omega)
theorem nstate_v (h : NZ w g T cs o x) {s : Int} (e : (x.st : Int) = s) : Calls Try.prog 25 #[.pointer (some ⟨g, o, none⟩)] w fun e w' => e = .returned (.int .u32 s) ∧ w = w' := e ▸ nstate_any h
theorem nleft_v (h : NZ w g T cs o x) {s : Int} (e : (x.left : Int) = s) : Calls Try.prog 26 #[.pointer (some ⟨g, o, none⟩)] w fun e w' => e = .returned (.int .i64 s) ∧ w = w' := e ▸ nleft_any h
theorem nlevel_v (h : NZ w g T cs o x) {s : Int} (e : lvN x.st = s) : Calls Try.prog 43 #[.pointer (some ⟨g, o, none⟩)] w fun e w' => e = .returned (.int .u8 s) ∧ w = w' := e ▸ nlevel_any h
end
theorem next_v {s : Int} {w : World} (S : Nat) (es : s = (S : Int)) (hs : S < 4294967296) {v : Int} (e : ((nx (S % 2 ^ 18) : Nat) : Int) = v) :
    Calls Try.prog 14 #[.int .u32 s] w fun e w' => e = .returned (.int .u32 v) ∧ Below w.heap.size w w' := by subst es e; exact next_any S hs w
theorem back_v {s : Int} {w : World} (S : Nat) (es : s = (S : Int)) (hs : S < 4294967296) {v : Int} (e : ((bk (S % 2 ^ 18) : Nat) : Int) = v) :
    Calls Try.prog 17 #[.int .u32 s] w fun e w' => e = .returned (.int .u32 v) ∧ Below w.heap.size w w' := by subst es e; exact back_any S hs w
theorem jump_v {s n : Int} {w : World} (S : Nat) (es : s = (S : Int)) (hs : S < 4294967296) (wn : -9223372036854775808 ≤ n ∧ n ≤ 9223372036854775807) {v : Int} (e : ((jmp n (S % 2 ^ 18) : Nat) : Int) = v) :
    Calls Try.prog 16 #[.int .u32 s, .int .i64 n] w fun e w' => e = .returned (.int .u32 v) ∧ Below w.heap.size w w' := by subst es e; exact jump_any S n hs wn w
theorem period_v {fr : Int} {w : World} (h0 : 0 ≤ fr) (h1 : fr ≤ 255) {v : Int} (e : (perN fr : Int) = v) :
    Calls Try.prog 18 #[.int .u8 fr] w fun e w' => e = .returned (.int .i64 v) ∧ w = w' := e ▸ period_any fr w h0 h1
/-- Noise by itself, whatever was there ahead being kept. -/
def NB (B : Nat) (W : World) (g : Nat) (x : Nz) (w : World) : Prop := N0 w g x ∧ Below B W w ∧ B ≤ w.heap.size ∧ B ≤ g
section
variable {B g : Nat} {W w w' : World} {x x' : Nz}
theorem NB.on (h : NB B W g x w) (k : Below w.heap.size w w') : NB B W g x w' := ⟨NZ.keep h.1 k (NZ.lt h.1), h.2.1.trans (k.mono h.2.2.1), Nat.le_trans h.2.2.1 k.size, h.2.2.2⟩
theorem NB.go (h : NB B W g x w) (h1 : N0 w' g x') (k : Kp [g] w w') : NB B W g x' w' := ⟨h1, k.onto h.2.1 h.2.2.1 (by simpa using h.2.2.2), Nat.le_trans h.2.2.1 k.size, h.2.2.2⟩
end
set_option maxHeartbeats 4000000 in
theorem liveN_any (w : World) : Calls Try.prog 12 #[] w fun e w' => e = .returned (.bool true) ∧ Below w.heap.size w w' := by
  obtain ⟨B, hB⟩ : ∃ B, w.heap.size = B := ⟨_, rfl⟩
  have HB := Lib.hid hB
  go_enter Try.func12, Try.ntmps12
  go_wp2_with fail
  refine (nnew_any 31 _ (by omega) (by omega)).mono ?_
  rintro e w1 ⟨rfl, h1, b1⟩
  rw [hB] at h1 b1
  have s1 : B ≤ w1.heap.size := hB ▸ b1.size
  have T1 : Hid (NB B w B ⟨1, 32, 31⟩ w1) := Lib.hid ⟨h1, b1, s1, Nat.le_refl _⟩
  simp only [hB]
  clear h1 b1 s1 hB
  go_wp2_with fail
  refine (ngo_v T1.out.1 32 (by rfl) (by decide) (x' := ⟨131072, 32, 31⟩) (by kernel_rfl)).mono ?_
  rintro e w2 ⟨rfl, h2, k2⟩
  have T2 : Hid (NB B w B ⟨131072, 32, 31⟩ w2) := Lib.hid (T1.out.go h2 k2)
  clear h2 k2 T1
  go_wp2_with fail
  refine (ngo_nil _ _).mono ?_
  rintro e w' ⟨rfl, rfl⟩
  go_wp2_with fail
  refine (nset_nil _ _).mono ?_
  rintro e w' ⟨rfl, rfl⟩
  go_wp2_with fail
  refine (next_v 1 rfl (by decide) (v := 131072) (by decide +kernel)).mono ?_
  rintro e w3 ⟨rfl, b3⟩
  have T3 := Lib.hid (T2.out.on b3)
  clear b3 T2
  go_wp2_with fail
  refine (jump_v 1 rfl (by decide) (by decide) (v := 196608) (by decide +kernel)).mono ?_
  rintro e w4 ⟨rfl, b4⟩
  have T4 := Lib.hid (T3.out.on b4)
  clear b4 T3
  go_wp2_with fail
  refine (back_v 131072 rfl (by decide) (v := 1) (by decide +kernel)).mono ?_
  rintro e w5 ⟨rfl, b5⟩
  have T5 := Lib.hid (T4.out.on b5)
  clear b5 T4
  go_wp2_with fail
  refine (period_v (by decide) (by decide) (v := 32) (by decide +kernel)).mono ?_
  rintro e w' ⟨rfl, rfl⟩
  go_wp2_with fail
  refine (period_v (by decide) (by decide) (v := 1984) (by decide +kernel)).mono ?_
  rintro e w' ⟨rfl, rfl⟩
  go_wp2_with fail
  refine (nstate_v T5.out.1 (s := 131072) rfl).mono ?_
  rintro e w' ⟨rfl, rfl⟩
  go_wp2_with fail
  refine (nleft_v T5.out.1 (s := 32) rfl).mono ?_
  rintro e w' ⟨rfl, rfl⟩
  go_wp2_with fail
  refine (nlevel_v T5.out.1 (s := 0) rfl).mono ?_
  rintro e w' ⟨rfl, rfl⟩
  go_wp2_with fail
  refine (nstate_nil _).mono ?_
  rintro e w' ⟨rfl, rfl⟩
  go_wp2_with fail
  refine (nlevel_nil _).mono ?_
  rintro e w' ⟨rfl, rfl⟩
  go_wp2_with fail
  refine (nleft_nil _).mono ?_
  rintro e w' ⟨rfl, rfl⟩
  go_wp2_with fail
  refine (nclone_nil _).mono ?_
  rintro e w' ⟨rfl, rfl⟩
  go_wp2_with fail
  go_ret
  exact ⟨rfl, by rw [HB.out]; exact T5.out.2.1⟩
end Go.Proofs.Ytcnjekballnncaa
