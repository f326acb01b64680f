/-
  Texts of these proofs, one behind the other: Mmu6.
-/
import Derived.Test.YtndhkdcdhpfajaaGreatKEP30
import Derived.Test.YtndhkdcdhpfajaaGreatKEP22
namespace Go.Proofs.YtndhkdcdhpfajaaGreat
open Go.RowKit
set_option linter.unusedVariables false
set_option linter.unusedSimpArgs false
set_option maxRecDepth 100000
/-- The answer's banks, and what was moved last, lie in g. -/
def RMu (w : World) (g : Nat) (z : Nat → Int) (l : Int) : Prop := Blk w g 166 (mmC z l)
theorem rbB_fin : ∀ m : Fin 256, ∀ i : Fin 8, rbit (m.val : Int) (i.val : Int) = bitB (m.val : Int) (i.val : Int) := by decide +kernel
theorem rbB {m : Int} {k : Nat} (m0 : 0 ≤ m) (m1 : m ≤ 255) (hk : k < 8) : rbit m (k : Int) = bitB m (k : Int) := by
  have := rbB_fin ⟨m.toNat, by omega⟩ ⟨k, hk⟩
  rwa [show ((⟨m.toNat, by omega⟩ : Fin 256).val : Int) = m by simp; omega] at this
section
variable {w w' : World} {g : Nat} {z : Nat → Int} {l : Int} {L : List Nat}
theorem RMu.kp (h : RMu w g z l) (k : Kp L w w') (hg : g ∉ L) : RMu w' g z l := Blk.kp h k hg
theorem RMu.below {B : Nat} (h : RMu w g z l) (hb : Below B w w') (hg : g < B) : RMu w' g z l := Blk.below h hb hg
theorem RMu.lt_ (h : RMu w g z l) : g < w.heap.size := Blk.lt h
theorem RMu.last_ (h : RMu w g z l) (b : Int) : RMu (w.setCell ⟨g, 8, none⟩ (.int .u8 b)) g z b := by
  have h2 := Blk.set_ h 8 (.int .u8 b)
  have e : (mmC z l).setIfInBounds 8 (.int .u8 b) = mmC z b := by
    rw [mmC_v, mmC_v, vArr_set]
    exact vArr_congr fun i hi => by
      by_cases e : i = 8
      · subst e; rfl
      · rw [if_neg e]; unfold mmV; rw [if_pos (by omega), if_pos (by omega)]
  rw [e] at h2
  exact h2
theorem RMu.one (h : RMu w g z l) (q : Nat) (hq : q < 8) (b : Int) : RMu (w.setCell ⟨g, q, none⟩ (.int .u8 b)) g (fun i => if i = q then b else z i) l := by
  have h2 := Blk.set_ h q (.int .u8 b)
  have e : (mmC z l).setIfInBounds q (.int .u8 b) = mmC (fun i => if i = q then b else z i) l := by
    rw [mmC_v, mmC_v, vArr_set]
    exact vArr_congr fun i hi => by
      by_cases e : i = q
      · subst e; rw [if_pos rfl]; unfold mmV; dsimp only; rw [if_pos hq, if_pos rfl]
      · rw [if_neg e]; unfold mmV
        by_cases e8 : i < 8
        · dsimp only; rw [if_pos e8, if_pos e8, if_neg e]
        · rw [if_neg e8, if_neg e8]
  rw [e] at h2
  exact h2
theorem RMu.at_ (h : RMu w g z l) (q : Nat) (hq : q < 8) : w.cell? ⟨g, q, none⟩ = some (.int .u8 (z q)) := by
  rw [Blk.cell h, mmC_v, vArr_at 9 _ _ (by omega)]; unfold mmV; rw [if_pos hq]
/-- Pages of which those of a mask, up to one, are in a bank. -/
def mvk (z : Nat → Int) (m b : Int) (k i : Nat) : Int := if i < k ∧ bitB m i = true then b else z i
theorem mvk_zero (z : Nat → Int) (m b : Int) : mvk z m b 0 = z := by
  funext i; unfold mvk; rw [if_neg (by omega)]
theorem mvk_yes (z : Nat → Int) (m b : Int) (k : Nat) (h : bitB m k = true) : (fun i => if i = k then b else mvk z m b k i) = mvk z m b (k + 1) := by
  funext i; unfold mvk
  by_cases e : i = k
  · subst e; rw [if_pos rfl, if_pos ⟨by omega, h⟩]
  · rw [if_neg e]
    by_cases c : i < k ∧ bitB m i = true
    · rw [if_pos c, if_pos ⟨by omega, c.2⟩]
    · rw [if_neg c, if_neg (by rintro ⟨c1, c2⟩; exact c ⟨by omega, c2⟩)]
theorem mvk_no (z : Nat → Int) (m b : Int) (k : Nat) (h : bitB m k = false) : mvk z m b k = mvk z m b (k + 1) := by
  funext i; unfold mvk
  by_cases c : i < k ∧ bitB m i = true
  · rw [if_pos c, if_pos ⟨by omega, c.2⟩]
  · rw [if_neg c, if_neg (by rintro ⟨c1, c2⟩; by_cases e : i = k; (subst e; rw [h] at c2; exact absurd c2 (by decide)); exact c ⟨by omega, c2⟩)]
theorem mvk_all (z : Nat → Int) (m b l : Int) : mmC (mvk z m b 8) l = mmC (mvd z m b) l := mmC_congr fun i hi => by
  unfold mvk mvd
  by_cases c : bitB m i = true
  · rw [if_pos ⟨hi, c⟩, if_pos c]
  · rw [if_neg (by rintro ⟨_, c2⟩; exact c c2), if_neg c]
def RmR (v : Value) (g : Nat) (z : Nat → Int) (l : Int) (w : World) (e : Ending) (w' : World) : Prop := e = .returned v ∧ RMu w' g z l ∧ Kp [g] w w'
/-- What is moved from the lowest page of a mask, from the highest page down. -/
def gk (f : Nat → Bool) (z : Nat → Int) (l : Int) : Nat → Int
  | 0 => l
  | j + 1 => if f (7 - j) = true then z (7 - j) else gk f z l j
theorem gk_down (f : Nat → Bool) (z : Nat → Int) (l : Int) (t : Nat) (ht : t ≤ 8) (h : ∀ i, i < t → f i = false) : gk f z l 8 = gk f z l (8 - t) := by
  induction t with
  | zero => rfl
  | succ t ih =>
    rw [ih (by omega) fun i hi => h i (by omega)]
    rw [show 8 - t = (8 - (t + 1)) + 1 by omega]
    simp only [gk]
    rw [show 7 - (8 - (t + 1)) = t by omega, h t (by omega), if_neg (by decide)]
theorem wthL_none (f : Nat → Bool) (t : Nat) (h : ∀ i, i < t → f i = false) : wthL f t = [] := by
  induction t with
  | zero => rfl
  | succ t ih =>
    simp only [wthL]
    rw [ih fun i hi => h i (by omega), h t (by omega)]
    split <;> simp
theorem gk_head (f : Nat → Bool) (z : Nat → Int) (l : Int) (n t : Nat) (hn : n + t = 8) (h : ∀ i, i < t → f i = false) : gk f z l 8 = (match wthL f 8 with | [] => l | x :: _ => z x.val) := by
  induction n generalizing t with
  | zero =>
    obtain rfl : t = 8 := by omega
    rw [wthL_none f 8 h, gk_down f z l 8 (by omega) h]
    rfl
  | succ n ih =>
    cases hf : f t with
    | false =>
      exact ih (t + 1) (by omega) fun i hi => by
        by_cases e : i = t
        · rw [e]; exact hf
        · exact h i (by omega)
    | true =>
      rw [gk_down f z l t (by omega) h, show 8 - t = (7 - t) + 1 by omega]
      simp only [gk]
      rw [show 7 - (7 - t) = t by omega, hf, if_pos rfl]
      have h1 : wthL f (t + 1) = [⟨t, by omega⟩] := by
        simp only [wthL]
        rw [wthL_none f t h, dif_pos (by omega), hf, if_pos rfl]
        rfl
      obtain ⟨r, hr⟩ := wthL_pre f (t + 1) 8 (by omega)
      rw [← hr, h1]
      rfl
theorem gk_getI (z : Nat → Int) (l m : Int) : gk (fun i => bitB m i) z l 8 = getI z l m := gk_head _ z l 8 0 (by omega) (by intro i hi; omega)
theorem rmphys_any (h : RMu w g z l) (hz : ∀ i, i < 8 → 0 ≤ z i ∧ z i ≤ 255) (a : Int) (a0 : 0 ≤ a) (a1 : a ≤ 65535) :
    Calls Tryz.prog 74 #[.pointer (some ⟨g, 0, none⟩), .int .u16 a] w fun e w' => e = .returned (.int .u32 (phI z a)) ∧ w = w' := by
  obtain ⟨q, hq⟩ : ∃ q, a.toNat / 8192 = q := ⟨_, rfl⟩
  have hq8 : q < 8 := by omega
  have hqw : IntKind.u16.wrap (a.tdiv 8192) = (q : Int) := by rw [Int.tdiv_eq_ediv_of_nonneg a0, IntWalk.u16_in _ (by omega)]; omega
  obtain ⟨b0, b1⟩ := hz q hq8
  have c0 := h.at_ q hq8
  have hr : phI z a = z q * 8192 + a % 8192 := by unfold phI; rw [hq]
  rw [hr]
  clear h hz hr hq
  obtain ⟨v, hv⟩ : ∃ v, z q = v := ⟨_, rfl⟩
  rw [hv] at c0 b0 b1 ⊢
  clear hv
  have i0 : (0 : Int) ≤ (q : Int) := by omega
  have i1 : (q : Int) < 8 := by omega
  go_enter Tryz.func74, Tryz.ntmps74
  go_wp2_with fail
  go_ret
  exact ⟨by go_num, rfl⟩
end
end Go.Proofs.YtndhkdcdhpfajaaGreat
