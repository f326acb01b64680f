/-
  Texts of these proofs, one behind the other: Cart4, Cart5.
-/
import Derived.Test.YtngfmofjonleeaaGreatKEA21
import Derived.Test.YtngfmofjonleeaaGreatKEA25
import Derived.Test.YtngfmofjonleeaaGreatKEA05
import Derived.Test.YtngfmofjonleeaaGreatKEA26
namespace Go.Proofs.YtngfmofjonleeaaGreat
open Go.RowKit
set_option linter.unusedVariables false
def readI (n : Nat) (z : Nat → Int) (a : Int) : Int := if whereI a = 0 ∧ a % 2097152 < n then z (a % 2097152).toNat else 255
set_option maxHeartbeats 2000000 in
theorem read_any {w : World} (A : Option Addr) (n c : Nat) (z : Nat → Int) (a : Int) (hn : n ≤ maxLen) (R : IRow w .u8 A n z) (a0 : 0 ≤ a) (a1 : a ≤ 4294967295) :
    Calls Tryz.prog 136 #[.slice A n c, .int .u32 a] w fun e w' => e = .returned (.int .u8 (readI n z a)) ∧ Below w.heap.size w w' := by
  unfold maxLen at hn
  have ba := bankI_bd a
  have oa := offI_bd a
  have y0 : 0 ≤ a % 2097152 := by omega
  have y1 : a % 2097152 < 2097152 := by omega
  have E1 : bankI a * 8192 + offI a % 8192 = a % 2097152 := by unfold bankI offI; omega
  have H1 := Lib.hid E1
  clear E1
  unfold readI
  generalize hx : whereI a = x
  have HX := Lib.hid hx
  clear hx
  generalize hy : a % 2097152 = y at *
  clear hy
  by_cases h : x = 0
  · subst h
    by_cases h2 : y < n
    · rw [if_pos ⟨rfl, h2⟩]
      obtain ⟨k, rfl⟩ := Int.eq_ofNat_of_zero_le y0
      obtain ⟨ad, rfl, hl, hc, hw⟩ := R k (by omega)
      have i0 : (k : Int) < n := h2
      go_enter Tryz.func136, Tryz.ntmps136
      go_wp2_with (first
        | (go_at_call 99; refine (bank_any _ _ a0 a1).mono ?_; rintro e w' ⟨rfl, rfl⟩)
        | (go_at_call 101; refine (off_any _ _ a0 a1).mono ?_; rintro e w' ⟨rfl, rfl⟩))
      refine (addr_any _ _ _ (by omega) (by omega) (by omega) (by omega)).mono ?_; rw [H1.out]; rintro e w' ⟨rfl, rfl⟩
      go_wp2_with fail
      refine (where_any _ _ a0 a1).mono ?_; rw [HX.out]; rintro e w2 ⟨rfl, hb⟩
      have hc2 := (hb.cell (p := ad.add k) (by rw [block_of_add]; exact hl)).trans hc
      clear hc hw y0 y1
      go_wp2_with fail
      go_ret
      exact ⟨rfl, hb⟩
    · rw [if_neg (fun h => h2 h.2)]
      have d1 : decide ((n : Int) ≤ y) = true := decide_eq_true (by omega)
      clear h2
      go_enter Tryz.func136, Tryz.ntmps136
      go_wp2_with (first
        | (go_at_call 99; refine (bank_any _ _ a0 a1).mono ?_; rintro e w' ⟨rfl, rfl⟩)
        | (go_at_call 101; refine (off_any _ _ a0 a1).mono ?_; rintro e w' ⟨rfl, rfl⟩))
      refine (addr_any _ _ _ (by omega) (by omega) (by omega) (by omega)).mono ?_; rw [H1.out]; rintro e w' ⟨rfl, rfl⟩
      go_wp2_with fail
      refine (where_any _ _ a0 a1).mono ?_; rw [HX.out]; rintro e w2 ⟨rfl, hb⟩
      go_wp2_with fail
      go_ret
      exact ⟨rfl, hb⟩
  · rw [if_neg (fun h' => h h'.1)]
    have d1 : (x != 0) = true := by rw [bne_iff_ne]; exact h
    clear h
    go_enter Tryz.func136, Tryz.ntmps136
    go_wp2_with (first
      | (go_at_call 99; refine (bank_any _ _ a0 a1).mono ?_; rintro e w' ⟨rfl, rfl⟩)
      | (go_at_call 101; refine (off_any _ _ a0 a1).mono ?_; rintro e w' ⟨rfl, rfl⟩))
    refine (addr_any _ _ _ (by omega) (by omega) (by omega) (by omega)).mono ?_; rw [H1.out]; rintro e w' ⟨rfl, rfl⟩
    go_wp2_with fail
    refine (where_any _ _ a0 a1).mono ?_; rw [HX.out]; rintro e w2 ⟨rfl, hb⟩
    go_wp2_with fail
    go_ret
    exact ⟨rfl, hb⟩
end Go.Proofs.YtngfmofjonleeaaGreat
namespace Go.Proofs.YtngfmofjonleeaaGreat
open Go.RowKit
set_option linter.unusedVariables false
theorem PRow.ok {w : World} {A : Option Addr} {m : Nat} {ps : Nat → Pc} (R : PRow w A m ps) (i : Nat) (hi : i < m) : PcOk w (ps i) := by
  obtain ⟨_, _, _, _, _, h⟩ := R i hi
  exact h
end Go.Proofs.YtngfmofjonleeaaGreat
