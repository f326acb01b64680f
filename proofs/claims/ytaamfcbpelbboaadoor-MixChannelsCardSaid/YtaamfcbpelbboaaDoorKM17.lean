/-
  Texts of these proofs, one behind the other: Psg3, Mix1.
-/
import Derived.Test.YtaamfcbpelbboaaDoorKM16
import Derived.Test.YtaamfcbpelbboaaDoorProg
import Derived.Test.YtaamfcbpelbboaaDoorKM14
import Derived.Test.YtaamfcbpelbboaaDoorKM01
import Derived.WalkKit
import Derived.Handy
import Derived.PlainAid
namespace Go.Proofs.YtaamfcbpelbboaaDoor
open Go.RowKit
set_option linter.unusedVariables false
set_option linter.unusedSimpArgs false
set_option maxRecDepth 100000
theorem and15 : ∀ n : Fin 256, bits .and .i64 (n.val : Int) 15 = ((n.val % 16 : Nat) : Int) := by decide +kernel
theorem neqB {a b : Int} (h : ¬ a = b) : (a == b) = false := by simpa using h
def Sg.hand (s : Sg) (r b : Int) : Sg := if s.ch < 6 then { s with xs := fun i => if i = s.ch then (s.xs i).wr r b else s.xs i } else s
section
variable {w w' : World} {g : Nat} {ns : Nat → Nat} {s : Sg} {L : List Nat}
def PWrR (g : Nat) (ns : Nat → Nat) (s : Sg) (w : World) (e : Ending) (w' : World) : Prop := e = .returned (.tuple #[]) ∧ PG w' g ns s ∧ Kp (pgL g ns) w w'
theorem hand_any (h : PG w g ns s) (r b : Int) (b0 : 0 ≤ b) (b1 : b ≤ 255) : Calls Tryd.prog 33 #[.pointer (some ⟨g, 0, none⟩), .int .i64 r, .int .u8 b] w (PWrR g ns (s.hand r b) w) := by
  unfold Sg.hand
  by_cases hc : s.ch < 6
  · rw [if_pos hc]; exact hand_on h hc r b b0 b1
  · rw [if_neg hc]
    refine (hand_off h hc r b).mono ?_
    rintro e w' ⟨rfl, rfl⟩
    exact ⟨rfl, h, Kp.refl _ _⟩
theorem PG.set (h : PG w g ns s) (t : Sg) (ht : t.ok) (hx : t.xs = s.xs) (i : Nat) (v : Value) (hi : 6 ≤ i) (e : ∀ j, j < 9 → pgV (fun i => some (ns i)) t.ch t.lo t.de j = if j = i then v else pgV (fun i => some (ns i)) s.ch s.lo s.de j) :
    PG (w.setCell ⟨g, i, none⟩ v) g ns t ∧ Kp (pgL g ns) w (w.setCell ⟨g, i, none⟩ v) := by
  have k : Kp [g] w (w.setCell ⟨g, i, none⟩ v) := (Kp.refl _ _).setCell (.inl (by simp)) _
  refine ⟨⟨?_, fun j hj => ?_, h.2.2.1, ht⟩, k.mono (by simp [pgL])⟩
  · have q := Blk.set_ h.1 i v
    rwa [pgC_set i v e] at q
  · rw [hx]; exact (h.2.1 j hj).kp k (by have := h.ne j hj; simp; omega)
theorem pwrite_any (h : PG w g ns s) (reg : Nat) (hr : reg < 256) (b : Int) (b0 : 0 ≤ b) (b1 : b ≤ 255) : Calls Tryd.prog 20 #[.pointer (some ⟨g, 0, none⟩), .int .i64 reg, .int .u8 b] w (PWrR g ns (s.wr reg b) w) := by
  have ha : bits .and .i64 (reg : Int) 15 = ((reg % 16 : Nat) : Int) := and15 ⟨reg, hr⟩
  have hok := Sg.wr_ok h.2.2.2 reg b0 b1
  unfold Sg.wr at hok ⊢
  obtain ⟨r, hrr⟩ : ∃ r, reg % 16 = r := ⟨_, rfl⟩
  have hr16 : r < 16 := by omega
  rw [hrr] at ha hok ⊢
  have R0 : (0 : Int) ≤ (r : Int) := by omega
  have R1 : (r : Int) < 16 := by omega
  have c6 := h.ch6
  have f6 := Blk.frozen h.1 6
  have f7 := Blk.frozen h.1 7
  have f8 := Blk.frozen h.1 8
  have c7 := h.lo7
  have c8 := h.de8
  have H := Lib.hid h
  have HOK := Lib.hid hok
  clear hok h
  by_cases h0 : r = 0
  · subst h0
    have HX := Lib.hid (PG.set H.out { s with ch := (b % 8).toNat } (by have := HOK.out; simpa using this) rfl 6 (.int .i64 (b % 8)) (by decide) (fun j hj => by
      unfold pgV
      by_cases e : j = 6
      · subst e; simp; omega
      · rw [if_neg e, if_neg e, if_neg e]))
    rw [if_pos rfl]
    go_enter Tryd.func20, Tryd.ntmps20
    go_wp2_with fail
    go_end0
    exact ⟨rfl, HX.out.1, HX.out.2⟩
  have n0 : ((r : Int) == 0) = false := neqB (by omega)
  by_cases h1 : r = 1
  · subst h1
    have HX := Lib.hid (PG.set H.out { s with lo := b } (by have := HOK.out; simpa using this) rfl 7 (.int .u8 b) (by decide) (fun j hj => by
      unfold pgV
      by_cases e : j = 7
      · subst e; simp
      · rw [if_neg e, if_neg e, if_neg e]))
    rw [if_neg h0, if_pos rfl]
    go_enter Tryd.func20, Tryd.ntmps20
    go_wp2_with fail
    go_end0
    exact ⟨rfl, HX.out.1, HX.out.2⟩
  have n1 : ((r : Int) == 1) = false := neqB (by omega)
  by_cases h9 : r = 9
  · subst h9
    have HX := Lib.hid (PG.set H.out { s with de := b } (by have := HOK.out; simpa using this) rfl 8 (.int .u8 b) (by decide) (fun j hj => by
      unfold pgV
      by_cases e : j = 8
      · subst e; simp
      · rw [if_neg e]
        by_cases e6 : j < 6
        · rw [if_pos e6, if_pos e6]
        · by_cases e7 : j = 6
          · rw [if_neg e6, if_neg e6, if_pos e7, if_pos e7]
          · have e8 : j = 7 := by omega
            rw [if_neg e6, if_neg e6, if_neg e7, if_neg e7, if_pos e8, if_pos e8]))
    rw [if_neg h0, if_neg h1, if_pos rfl]
    go_enter Tryd.func20, Tryd.ntmps20
    go_wp2_with fail
    go_end0
    exact ⟨rfl, HX.out.1, HX.out.2⟩
  have n9 : ((r : Int) == 9) = false := neqB (by omega)
  rw [if_neg h0, if_neg h1, if_neg h9]
  clear HOK f6 f7 f8 c7 c8 h0 h1 h9
  by_cases h2 : 2 ≤ r ∧ r ≤ 6
  · have e : (if s.ch < 6 ∧ (2 ≤ r ∧ r ≤ 6 ∨ r = 7 ∧ 4 ≤ s.ch) then ({ s with xs := fun i => if i = s.ch then (s.xs i).wr (r : Int) b else s.xs i } : Sg) else s) = s.hand r b := by
      unfold Sg.hand
      by_cases hc : s.ch < 6
      · rw [if_pos hc, if_pos ⟨hc, .inl h2⟩]
      · rw [if_neg hc, if_neg (fun x => hc x.1)]
    rw [e]
    clear e
    have j1 : (2 : Int) ≤ r := by omega
    have j2 : (r : Int) ≤ 6 := by omega
    clear h2
    go_enter Tryd.func20, Tryd.ntmps20
    go_wp2_with fail
    refine (hand_any H.out r b b0 b1).mono ?_
    rintro e w1 ⟨rfl, h1, k1⟩
    have Z := Lib.hid (And.intro h1 k1)
    clear h1 k1
    go_wp2_with fail
    go_end0
    exact ⟨rfl, Z.out.1, Z.out.2⟩
  by_cases h7 : r = 7
  · subst h7
    by_cases h4 : 4 ≤ s.ch
    · have e : (if s.ch < 6 ∧ (2 ≤ 7 ∧ 7 ≤ 6 ∨ 7 = 7 ∧ 4 ≤ s.ch) then ({ s with xs := fun i => if i = s.ch then (s.xs i).wr ((7 : Nat) : Int) b else s.xs i } : Sg) else s) = s.hand 7 b := by
        unfold Sg.hand
        by_cases hc : s.ch < 6
        · rw [if_pos hc, if_pos ⟨hc, .inr ⟨rfl, h4⟩⟩]; rfl
        · rw [if_neg hc, if_neg (fun x => hc x.1)]
      rw [e]
      clear e
      have j1 : (4 : Int) ≤ s.ch := by omega
      go_enter Tryd.func20, Tryd.ntmps20
      go_wp2_with fail
      refine (hand_any H.out 7 b b0 b1).mono ?_
      rintro e w1 ⟨rfl, h1, k1⟩
      have Z := Lib.hid (And.intro h1 k1)
      clear h1 k1
      go_wp2_with fail
      go_end0
      exact ⟨rfl, Z.out.1, Z.out.2⟩
    · have j1 : ¬ (4 : Int) ≤ s.ch := by omega
      rw [if_neg (by omega)]
      go_enter Tryd.func20, Tryd.ntmps20
      go_wp2_with fail
      go_end0
      exact ⟨rfl, H.out, Kp.refl _ _⟩
  · have n7 : ((r : Int) == 7) = false := neqB (by omega)
    rw [if_neg (by omega)]
    have j2 : ¬ (r : Int) ≤ 6 := by
      have : ¬ (r : Int) = 0 := by simpa using n0
      have : ¬ (r : Int) = 1 := by simpa using n1
      omega
    go_enter Tryd.func20, Tryd.ntmps20
    go_wp2_with fail
    go_end0
    exact ⟨rfl, H.out, Kp.refl _ _⟩
theorem pmain_any (h : PG w g ns s) : Calls Tryd.prog 36 #[.pointer (some ⟨g, 0, none⟩)] w fun e w' => e = .returned (.tuple #[.int .u8 (s.lo / 16), .int .u8 (s.lo % 16)]) ∧ Below w.heap.size w w' := by
  have c7 := h.lo7
  obtain ⟨a0, a1⟩ := h.2.2.2.2.1
  clear h
  go_enter Tryd.func36, Tryd.ntmps36
  go_wp2_with fail
  go_region
  all_goals
    go_wp2_with fail
    go_ret2
    exact ⟨rfl, (Below.refl _ _).drew⟩
theorem pmain_nil (w : World) : Calls Tryd.prog 36 #[.pointer none] w fun e w' => e = .returned (.tuple #[.int .u8 0, .int .u8 0]) ∧ w = w' := by
  go_enter Tryd.func36, Tryd.ntmps36
  go_wp2_with fail
  go_ret2
  exact ⟨rfl, rfl⟩
/-- By how much a level bends. -/
def Sg.depth (s : Sg) : Int := dp (s.de.toNat % 4)
theorem pdepth_any (h : PG w g ns s) (hD : TabAt w 1 4 dp) : Calls Tryd.prog 47 #[.pointer (some ⟨g, 0, none⟩)] w fun e w' => e = .returned (.int .i64 s.depth) ∧ w = w' := by
  unfold Sg.depth
  have c8 := h.de8
  obtain ⟨a0, a1⟩ := h.2.2.2.2.2.1
  obtain ⟨d, hd⟩ : ∃ d : Nat, s.de.toNat = d := ⟨_, rfl⟩
  have hd2 : s.de = (d : Int) := by omega
  rw [hd2] at c8 a0 a1
  rw [hd]
  have cd := hD.2 (d % 4) (by omega)
  clear h hd hd2 hD
  go_enter Tryd.func47, Tryd.ntmps47
  go_wp2
  go_ret
  exact ⟨rfl, rfl⟩
end
end Go.Proofs.YtaamfcbpelbboaaDoor
namespace Go.Proofs.YtaamfcbpelbboaaDoor
open Go.RowKit
set_option linter.unusedVariables false
set_option linter.unusedSimpArgs false
set_option maxRecDepth 100000
theorem less32_any (v : Int) (h0 : 0 ≤ v) (h1 : v ≤ 255) (w : World) : Calls Tryd.prog 27 #[.int .u8 v, .int .u8 32] w fun e w' => e = .returned (.int .i64 (31 - v % 32)) ∧ w = w' := by
  go_enter Tryd.func27, Tryd.ntmps27
  go_wp2
  go_ret
  exact ⟨rfl, rfl⟩
theorem less16_any (v : Int) (h0 : 0 ≤ v) (h1 : v ≤ 255) (w : World) : Calls Tryd.prog 27 #[.int .u8 v, .int .u8 16] w fun e w' => e = .returned (.int .i64 (15 - v % 16)) ∧ w = w' := by
  go_enter Tryd.func27, Tryd.ntmps27
  go_wp2
  go_ret
  exact ⟨rfl, rfl⟩
theorem mloss_any (v b m : Int) (v0 : 0 ≤ v) (v1 : v ≤ 255) (b0 : 0 ≤ b) (b1 : b ≤ 255) (m0 : 0 ≤ m) (m1 : m ≤ 255) (w : World) : Calls Tryd.prog 11 #[.int .u8 v, .int .u8 b, .int .u8 m] w fun e w' => e = .returned (.int .i64 (lssOf v b m)) ∧ w = w' := by
  have e : lssOf v b m = 31 - v % 32 + 2 * (15 - b % 16 + (15 - m % 16)) := by unfold lssOf; omega
  rw [e]
  go_enter Tryd.func11, Tryd.ntmps11
  go_wp2_with fail
  refine (less32_any v v0 v1 _).mono ?_
  rintro e w' ⟨rfl, rfl⟩
  go_wp2_with fail
  refine (less16_any b b0 b1 _).mono ?_
  rintro e w' ⟨rfl, rfl⟩
  go_wp2_with fail
  refine (less16_any m m0 m1 _).mono ?_
  rintro e w' ⟨rfl, rfl⟩
  go_wp2
  go_ret
  exact ⟨rfl, rfl⟩
theorem rloss_any (v b m : Int) (v0 : 0 ≤ v) (v1 : v ≤ 255) (b0 : 0 ≤ b) (b1 : b ≤ 255) (m0 : 0 ≤ m) (m1 : m ≤ 255) (w : World) : Calls Tryd.prog 12 #[.int .u8 v, .int .u8 b, .int .u8 m] w fun e w' => e = .returned (.int .i64 (lssOf v b m)) ∧ w = w' := by
  unfold lssOf
  go_enter Tryd.func12, Tryd.ntmps12
  go_wp2
  go_ret
  exact ⟨rfl, rfl⟩
theorem beyond_any (n : Int) (w : World) : Calls Tryd.prog 41 #[.int .i64 n] w fun e w' => e = .returned (.bool (decide (n < -1099511627776) || decide (1099511627776 < n))) ∧ w = w' := by
  by_cases h1 : n < -1099511627776
  · simp only [h1, decide_true, Bool.true_or]
    go_enter Tryd.func41, Tryd.ntmps41
    go_wp2
    go_ret
    exact ⟨rfl, rfl⟩
  · by_cases h2 : 1099511627776 < n
    · simp only [h1, h2, decide_true, decide_false, Bool.or_true]
      go_enter Tryd.func41, Tryd.ntmps41
      go_wp2
      go_ret
      exact ⟨rfl, rfl⟩
    · simp only [h1, h2, decide_false, Bool.or_false]
      go_enter Tryd.func41, Tryd.ntmps41
      go_wp2
      go_ret
      exact ⟨rfl, rfl⟩
theorem power_any {w : World} (h : TabAt w 0 4 pw) (l : Int) : Calls Tryd.prog 10 #[.int .i64 l] w fun e w' => e = .returned (.int .i64 (pwr l)) ∧ w = w' := by
  unfold pwr
  have c0 := h.2 0 (by decide)
  by_cases h1 : l < 0
  · rw [if_pos h1]
    go_enter Tryd.func10, Tryd.ntmps10
    go_wp2
    go_ret
    exact ⟨rfl, rfl⟩
  by_cases h2 : 48 ≤ l
  · rw [if_neg h1, if_pos h2]
    go_enter Tryd.func10, Tryd.ntmps10
    go_wp2
    go_ret
    exact ⟨rfl, rfl⟩
  rw [if_neg h1, if_neg h2]
  obtain ⟨k, rfl⟩ := Int.eq_ofNat_of_zero_le (show 0 ≤ l by omega)
  have ck := h.2 (k % 4) (by omega)
  clear c0 h
  rw [show ((k : Int)).toNat = k from rfl]
  go_enter Tryd.func10, Tryd.ntmps10
  go_wp2
  go_ret
  exact ⟨rfl, rfl⟩
/-- Both sides' half, or nothing. -/
def midV (l r : Int) : Value := if l < -1099511627776 ∨ 1099511627776 < l ∨ r < -1099511627776 ∨ 1099511627776 < r ∨ ¬ (l + r) % 2 = 0 then .tuple #[.int .i64 0, .int .i64 0, .bool false] else .tuple #[.int .i64 ((l + r) / 2), .int .i64 ((l - r) / 2), .bool true]
theorem middle_any (l r : Int) (w : World) : Calls Tryd.prog 25 #[.int .i64 l, .int .i64 r] w fun e w' => e = .returned (midV l r) ∧ w = w' := by
  unfold midV
  obtain ⟨bl, hbl⟩ : ∃ b, (decide (l < -1099511627776) || decide (1099511627776 < l)) = b := ⟨_, rfl⟩
  obtain ⟨br, hbr⟩ : ∃ b, (decide (r < -1099511627776) || decide (1099511627776 < r)) = b := ⟨_, rfl⟩
  have cl : ∀ w, Calls Tryd.prog 41 #[.int .i64 l] w fun e w' => e = .returned (.bool bl) ∧ w = w' := fun w => hbl ▸ beyond_any l w
  have cr : ∀ w, Calls Tryd.prog 41 #[.int .i64 r] w fun e w' => e = .returned (.bool br) ∧ w = w' := fun w => hbr ▸ beyond_any r w
  cases bl with
  | true =>
    simp only [Bool.or_eq_true, decide_eq_true_eq] at hbl
    rw [if_pos (by omega)]
    clear hbl hbr
    go_enter Tryd.func25, Tryd.ntmps25
    go_wp2_with fail
    refine (cl _).mono ?_
    rintro e w' ⟨rfl, rfl⟩
    go_wp2_with fail
    go_ret3
    exact ⟨rfl, rfl⟩
  | false =>
  cases br with
  | true =>
    simp only [Bool.or_eq_true, decide_eq_true_eq] at hbr
    rw [if_pos (by omega)]
    clear hbl hbr
    go_enter Tryd.func25, Tryd.ntmps25
    go_wp2_with fail
    refine (cl _).mono ?_
    rintro e w' ⟨rfl, rfl⟩
    go_wp2_with fail
    refine (cr _).mono ?_
    rintro e w' ⟨rfl, rfl⟩
    go_wp2_with fail
    go_ret3
    exact ⟨rfl, rfl⟩
  | false =>
  simp only [Bool.or_eq_false_iff, decide_eq_false_iff_not] at hbl hbr
  have hs : IntKind.i64.wrap (l + r) = l + r := IntWalk.i64_in _ (by omega)
  have hd : IntKind.i64.wrap (l - r) = l - r := IntWalk.i64_in _ (by omega)
  by_cases he : (l + r) % 2 = 0
  · rw [if_neg (by omega)]
    obtain ⟨k, hk⟩ : ∃ k, l + r = 2 * k := ⟨(l + r) / 2, by omega⟩
    have hk2 : l - r = 2 * (k - r) := by omega
    have t0 : Int.tmod (l + r) 2 = 0 := by rw [hk, Int.mul_tmod_right]
    have t1 : IntKind.i64.wrap (Int.tdiv (l + r) 2) = (l + r) / 2 := by rw [hk, Int.mul_tdiv_cancel_left k (by decide), IntWalk.i64_in _ (by omega)]; omega
    have t2 : IntKind.i64.wrap (Int.tdiv (l - r) 2) = (l - r) / 2 := by rw [hk2, Int.mul_tdiv_cancel_left _ (by decide), IntWalk.i64_in _ (by omega)]; omega
    clear hk hk2
    clear he hbl hbr
    go_enter Tryd.func25, Tryd.ntmps25
    go_wp2_with fail
    refine (cl _).mono ?_
    rintro e w' ⟨rfl, rfl⟩
    go_wp2_with fail
    refine (cr _).mono ?_
    rintro e w' ⟨rfl, rfl⟩
    go_wp2_with fail
    go_ret3
    exact ⟨rfl, rfl⟩
  · rw [if_pos (by omega)]
    have t0 : (Int.tmod (l + r) 2 == 0) = false := by
      have : ¬ Int.tmod (l + r) 2 = 0 := fun e => he (Int.emod_eq_zero_of_dvd (Int.dvd_of_tmod_eq_zero e))
      simpa using this
    clear he hbl hbr
    go_enter Tryd.func25, Tryd.ntmps25
    go_wp2_with fail
    refine (cl _).mono ?_
    rintro e w' ⟨rfl, rfl⟩
    go_wp2_with fail
    refine (cr _).mono ?_
    rintro e w' ⟨rfl, rfl⟩
    go_wp2_with fail
    go_ret3
    exact ⟨rfl, rfl⟩
end Go.Proofs.YtaamfcbpelbboaaDoor
