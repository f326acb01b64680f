/-
  Texts of these proofs, one behind the other: Noi7, MB.
-/
import Derived.Test.YtaamfcbpelbboaaDoorKM09
import Derived.Test.YtaamfcbpelbboaaDoorKM02
namespace Go.Proofs.YtaamfcbpelbboaaDoor
open Go.RowKit
set_option linter.unusedVariables false
set_option linter.unusedSimpArgs false
set_option maxRecDepth 100000
section
variable {w : World} {g : Nat} {T : TypeId} {cs : Array Value} {o : Nat} {x : Nz}
theorem nstate_any (h : NZ w g T cs o x) :
    Calls Tryd.prog 64 #[.pointer (some ⟨g, o, none⟩)] w fun e w' => e = .returned (.int .u32 x.st) ∧ w = w' := by
  obtain ⟨c0, c1, c2⟩ := h.cells
  obtain ⟨⟨k0, k1⟩, _, _⟩ := h.2.2
  have m1 : max (x.st : Int) 1 = (x.st : Int) := by omega
  clear h
  go_enter Tryd.func64, Tryd.ntmps64
  go_wp2
  go_ret
  exact ⟨rfl, rfl⟩
theorem nleft_any (h : NZ w g T cs o x) :
    Calls Tryd.prog 61 #[.pointer (some ⟨g, o, none⟩)] w fun e w' => e = .returned (.int .i64 x.left) ∧ w = w' := by
  obtain ⟨c0, c1, c2⟩ := h.cells
  obtain ⟨_, ⟨k0, k1⟩, _⟩ := h.2.2
  have j1 : ((x.left : Int) == 0) = false := by
    have : ¬ (x.left : Int) = 0 := by omega
    simpa using this
  clear h
  go_enter Tryd.func61, Tryd.ntmps61
  go_wp2
  go_ret
  exact ⟨rfl, rfl⟩
def lvN (st : Nat) : Int := if st % 2 = 1 then 31 else 0
theorem nlevel_any (h : NZ w g T cs o x) :
    Calls Tryd.prog 62 #[.pointer (some ⟨g, o, none⟩)] w fun e w' => e = .returned (.int .u8 (lvN x.st)) ∧ w = w' := by
  have H := Lib.hid h
  obtain ⟨⟨k0, k1⟩, _, _⟩ := h.2.2
  clear h
  rcases Nat.mod_two_eq_zero_or_one x.st with h1 | h1
  · have e1 : (x.st : Int) % 2 = 0 := by omega
    have e2 : lvN x.st = 0 := by unfold lvN; rw [if_neg (by omega)]
    rw [e2]
    go_enter Tryd.func62, Tryd.ntmps62
    go_wp2_with (go_at_call 64; refine (nstate_any H.out).mono ?_; rintro e w' ⟨rfl, rfl⟩)
    go_ret
    exact ⟨rfl, rfl⟩
  · have e1 : (x.st : Int) % 2 = 1 := by omega
    have e2 : lvN x.st = 31 := by unfold lvN; rw [if_pos h1]
    rw [e2]
    go_enter Tryd.func62, Tryd.ntmps62
    go_wp2_with (go_at_call 64; refine (nstate_any H.out).mono ?_; rintro e w' ⟨rfl, rfl⟩)
    go_ret
    exact ⟨rfl, rfl⟩
theorem nset_any (h : NZ w g T cs o x) (fr : Int) (h0 : 0 ≤ fr) (h1 : fr ≤ 255) :
    Calls Tryd.prog 55 #[.pointer (some ⟨g, o, none⟩), .int .u8 fr] w (NzR (.tuple #[]) g T cs o (x.set fr) w) := by
  obtain ⟨c0, c1, c2⟩ := h.cells
  have f1 := h.1.frozen (o + 1)
  have f2 := h.1.frozen (o + 2)
  have H := Lib.hid h
  obtain ⟨p1, p2⟩ := h.put (nzPut_left h.2.1 x.left) (x' := x) h.2.2
  obtain ⟨q1, q2⟩ := p1.put (nzPut_fr h.2.1 fr) (x' := x.set fr) (Nz.set_ok h.2.2 h0 h1)
  have Q1 := Lib.hid q1
  have Q2 := Lib.hid (p2.trans q2 (by simp))
  clear h p1 p2 q1 q2
  go_enter Tryd.func55, Tryd.ntmps55
  go_wp2_with (go_at_call 61; refine (nleft_any H.out).mono ?_; rintro e w' ⟨rfl, rfl⟩)
  first | go_end0 | refine bodyPost_ret (results_none rfl _ _ _) rfl ?_
  exact ⟨rfl, Q1.out, Q2.out⟩
theorem NZ.new_ (hx : x.ok) (w : World) : NZ (w.alloc (.cells #[.int .u32 x.st, .int .i64 x.left, .int .u8 x.fr] 93)) w.heap.size 93 (Array.replicate 3 .nilFunc) 0 x := ⟨Blk.new w _ _, by decide, hx⟩
def NCloneR (x : Nz) (w : World) (e : Ending) (w' : World) : Prop :=
  e = .returned (.pointer (some ⟨w.heap.size, 0, none⟩)) ∧ NZ w' w.heap.size 93 (Array.replicate 3 .nilFunc) 0 x ∧ Below w.heap.size w w'
theorem nnew_any (fr : Int) (w : World) (h0 : 0 ≤ fr) (h1 : fr ≤ 255) : Calls Tryd.prog 59 #[.int .u8 fr] w (NCloneR (Nz.new fr) w) := by
  go_enter Tryd.func59, Tryd.ntmps59
  go_wp2_with (go_at_call 63; refine (period_any fr _ h0 h1).mono ?_; rintro e w' ⟨rfl, rfl⟩)
  go_ret
  exact ⟨rfl, NZ.new_ (Nz.new_ok h0 h1) w, (Below.refl _ _).alloc (Nat.le_refl _) _⟩
end
section
variable (w : World)
theorem nstate_nil : Calls Tryd.prog 64 #[.pointer none] w fun e w' => e = .returned (.int .u32 0) ∧ w = w' := by
  go_enter Tryd.func64, Tryd.ntmps64
  go_wp2
  go_ret
  exact ⟨rfl, rfl⟩
theorem nleft_nil : Calls Tryd.prog 61 #[.pointer none] w fun e w' => e = .returned (.int .i64 0) ∧ w = w' := by
  go_enter Tryd.func61, Tryd.ntmps61
  go_wp2
  go_ret
  exact ⟨rfl, rfl⟩
theorem nlevel_nil : Calls Tryd.prog 62 #[.pointer none] w fun e w' => e = .returned (.int .u8 0) ∧ w = w' := by
  go_enter Tryd.func62, Tryd.ntmps62
  go_wp2_with (go_at_call 64; refine (nstate_nil _).mono ?_; rintro e w' ⟨rfl, rfl⟩)
  go_ret
  exact ⟨rfl, rfl⟩
theorem nset_nil (b : Int) : Calls Tryd.prog 55 #[.pointer none, .int .u8 b] w fun e w' => e = .returned (.tuple #[]) ∧ w = w' := by
  go_enter Tryd.func55, Tryd.ntmps55
  go_wp2
  first | go_end0 | refine bodyPost_ret (results_none rfl _ _ _) rfl ?_
  exact ⟨rfl, rfl⟩
end
end Go.Proofs.YtaamfcbpelbboaaDoor
namespace Go.Proofs.YtaamfcbpelbboaaDoor
open Go.RowKit
set_option linter.unusedVariables false
set_option maxRecDepth 100000
theorem bit0_fin : ∀ b : Fin 256, bitB (b.val : Int) 0 = decide ((b.val : Int) % 2 = 1) := by decide +kernel
theorem bit1_fin : ∀ b : Fin 256, bitB (b.val : Int) 1 = decide ((b.val : Int) / 2 % 2 = 1) := by decide +kernel
theorem bit0_eq {b : Int} (h0 : 0 ≤ b) (h1 : b ≤ 255) : bitB b 0 = decide (b % 2 = 1) := by
  have := bit0_fin ⟨b.toNat, by omega⟩
  rwa [show ((⟨b.toNat, by omega⟩ : Fin 256).val : Int) = b by simp; omega] at this
theorem bit1_eq {b : Int} (h0 : 0 ≤ b) (h1 : b ≤ 255) : bitB b 1 = decide (b / 2 % 2 = 1) := by
  have := bit1_fin ⟨b.toNat, by omega⟩
  rwa [show ((⟨b.toNat, by omega⟩ : Fin 256).val : Int) = b by simp; omega] at this
end Go.Proofs.YtaamfcbpelbboaaDoor
