/-
  Texts of these proofs, one behind the other: Scr2.
-/
import Derived.Test.YtnhnphifhkkboaaDoorKSW02
import Derived.Test.YtnhnphifhkkboaaDoorKSW08
import Derived.Test.YtnhnphifhkkboaaDoorKSW09
import Derived.Test.YtnhnphifhkkboaaDoorKSW10
import Derived.Test.YtnhnphifhkkboaaDoorKSW16
import Derived.Test.YtnhnphifhkkboaaDoorKSW13
import Derived.Test.YtnhnphifhkkboaaDoorKSW11
import Derived.Deep.QuietTactic
import Derived.BigQuiet
namespace Go.Proofs.YtnhnphifhkkboaaDoor
open Go.RowKit Go.Shelf
set_option linter.unusedVariables false
set_option linter.unusedSimpArgs false
set_option maxRecDepth 100000
def SRow (w : World) (A : Option Addr) (xs : List ByteArray) : Prop := ∀ i x, xs[i]? = some x → ∃ ad : Addr, A = some ad ∧ ad.block < w.heap.size ∧ w.cell? (ad.add i) = some (.string x)
theorem SRow.keep {w w' : World} {A : Option Addr} {xs : List ByteArray} (h : SRow w A xs) (hb : Below w.heap.size w w') : SRow w' A xs := fun i x hx => by
  obtain ⟨ad, e, hl, hc⟩ := h i x hx
  exact ⟨ad, e, Nat.lt_of_lt_of_le hl hb.size, (hb.cell (by rw [block_of_add]; exact hl)).trans hc⟩
theorem SRow.kp {w w' : World} {L : List Nat} {A : Option Addr} {xs : List ByteArray} (h : SRow w A xs) (k : Kp L w w') (hA : ∀ ad, A = some ad → ad.block ∉ L) : SRow w' A xs := fun i x hx => by
  obtain ⟨ad, e, hl, hc⟩ := h i x hx
  exact ⟨ad, e, Nat.lt_of_lt_of_le hl k.size, (k.cell (by rw [block_of_add]; exact hl) (by rw [block_of_add]; exact hA ad e)).trans hc⟩
theorem SRow.tail {w : World} {A : Option Addr} {x : ByteArray} {xs : List ByteArray} {c : Nat} (h : SRow w A (x :: xs)) (hc : xs.length + 1 ≤ c) : SRow w (if c = 1 then A else A.map (·.add 1)) xs := fun i y hy => by
  obtain ⟨ad, e, hl, hx⟩ := h (i + 1) y (by simpa using hy)
  subst e
  have : 0 < xs.length := by
    have := (List.getElem?_eq_some_iff.1 hy).1; omega
  rw [if_neg (by omega)]
  refine ⟨ad.add 1, rfl, by rw [block_of_add]; exact hl, ?_⟩
  rw [add_of_add, show 1 + i = i + 1 by omega]
  exact hx
theorem own_srow {w : World} {base : Nat} {e : TypeId} {v : Value} {xs : List ByteArray} (h : w.ownsRow base e 1 v xs.length (xs.map Value.string)) :
    ∃ A cap, v = .slice A xs.length cap ∧ xs.length ≤ cap ∧ cap ≤ maxLen ∧ SRow w A xs ∧ Typed w A e ∧ (A = none → xs.length = 0 ∧ cap = 0) ∧ (∀ ad, A = some ad → base ≤ ad.block) := by
  rcases h.2 with ⟨rfl, h0⟩ | ⟨g, cap, cur, rfl, hg, hh, hnc, hcm, hcs, hcur⟩
  · have : xs = [] := List.length_eq_zero_iff.1 h0
    subst this
    exact ⟨none, 0, rfl, Nat.le_refl _, by unfold maxLen; omega, fun i x hx => by simp at hx, Typed.none, fun _ => ⟨rfl, rfl⟩, fun ad x => by cases x⟩
  · refine ⟨some ⟨g, 0, none⟩, cap, rfl, hnc, hcm, fun i x hx => ⟨_, rfl, ?_, ?_⟩, fun ad x => by cases x; exact ⟨cur, hh⟩, fun x => (by cases x), fun ad x => by cases x; exact hg⟩
    · rcases Nat.lt_or_ge g w.heap.size with h | h
      · exact h
      · rw [Array.getElem?_eq_none h] at hh; cases hh
    · exact h.cells rfl i _ (by rw [List.getElem?_map, hx]; rfl)
/-- A line's words; none, if it is passed over. -/
def lineW (s : ByteArray) : List ByteArray := match wordsB s with
  | [] => []
  | x :: r => if x.get! 0 = 35 then [] else x :: r
/-- What a call answers that tells strings. -/
def WordsR (xs : List ByteArray) (w : World) (e : Ending) (w' : World) : Prop :=
  ∃ A c, e = .returned (.slice A xs.length c) ∧ xs.length ≤ c ∧ c ≤ maxLen ∧ SRow w' A xs ∧ Typed w' A 9 ∧ (A = none → xs.length = 0 ∧ c = 0) ∧ (∀ ad, A = some ad → w.heap.size ≤ ad.block) ∧ Below w.heap.size w w'
theorem isblank_any (x : Int) (W : World) : Calls Tryd.prog 65 #[.int .i32 x] W fun e w' => e = .returned (.bool (x == 32)) ∧ w' = W := by
  go_enter Tryd.func65, Tryd.ntmps65
  go_wp2_with fail
  go_ret
  exact ⟨rfl, rfl⟩
theorem isblank_pays (w : World) : PredAtRunes Tryd.prog 65 #[] (fun x => x == 32) w := fun W x hx hb => by
  refine (isblank_any (x : Int) W).mono ?_
  rintro e w' ⟨rfl, rfl⟩
  refine ⟨?_, 0, rfl⟩
  have : ((x : Int) == 32) = (x == 32) := by
    rw [Bool.eq_iff_iff, beq_iff_eq, beq_iff_eq]; omega
  rw [this]
theorem wsS_ne (s : ByteArray) : ∀ k, ∀ x ∈ (wsS s k).2, x.1 < x.2 ∧ x.2 ≤ k
  | 0, x, h => by simp [wsS] at h
  | k + 1, x, h => by
    have ih := wsS_ne s k
    unfold wsS at h
    split at h
    · dsimp only at h
      split at h
      · rcases List.mem_append.1 h with h | h
        · have := ih x h; omega
        · simp only [List.mem_singleton] at h; subst h; exact ⟨by assumption, by show k ≤ k + 1; omega⟩
      · have := ih x h; omega
    · have := ih x h; omega
theorem spW_ne (s : ByteArray) : ∀ x ∈ spW s, x.1 < x.2 ∧ x.2 ≤ s.size := fun x h => by
  unfold spW at h
  split at h
  · rcases List.mem_append.1 h with h | h
    · exact wsS_ne s _ x h
    · simp only [List.mem_singleton] at h; subst h; exact ⟨by assumption, Nat.le_refl _⟩
  · exact wsS_ne s _ x h
theorem wordsB_ne (s : ByteArray) : ∀ x ∈ wordsB s, 0 < x.size ∧ x.size ≤ s.size := fun x h => by
  unfold wordsB at h
  obtain ⟨p, hp, rfl⟩ := List.mem_map.1 h
  have := spW_ne s p hp
  rw [ByteArray.size_extract]; omega
theorem lineW_nil {s : ByteArray} (h : wordsB s = []) : lineW s = [] := by unfold lineW; rw [h]
theorem lineW_off {s : ByteArray} {x : ByteArray} {r : List ByteArray} (h : wordsB s = x :: r) (hx : x.get! 0 = 35) : lineW s = [] := by unfold lineW; rw [h]; simp only [if_pos hx]
theorem lineW_on {s : ByteArray} {x : ByteArray} {r : List ByteArray} (h : wordsB s = x :: r) (hx : ¬ x.get! 0 = 35) : lineW s = x :: r := by unfold lineW; rw [h]; simp only [if_neg hx]
theorem wordsR_nil (w w' : World) (hb : Below w.heap.size w w') : WordsR [] w (.returned (.slice none 0 0)) w' :=
  ⟨none, 0, rfl, Nat.le_refl _, by unfold maxLen; omega, fun i x hx => by simp at hx, Typed.none, fun _ => ⟨rfl, rfl⟩, fun ad x => (by cases x), hb⟩
set_option maxHeartbeats 4000000 in
theorem scline_any (s : ByteArray) (hs : s.size ≤ 1000000) (w : World) : Calls Tryd.prog 20 #[.string s] w fun e w' => WordsR (lineW s) w e w' := by
  have hF := sh_strings_FieldsFunc_runes 65 #[] (fun args w => by rfl) (fun x => x == 32) s w (by omega) (isblank_pays w)
  rw [goFields_words] at hF
  have hne := wordsB_ne s
  have HL0 := Lib.hid (lineW_nil (s := s))
  have HL1 := Lib.hid (fun x r => lineW_off (s := s) (x := x) (r := r))
  have HL2 := Lib.hid (fun x r => lineW_on (s := s) (x := x) (r := r))
  obtain ⟨L, hL⟩ : ∃ L, lineW s = L := ⟨_, rfl⟩
  rw [hL] at HL0 HL1 HL2 ⊢
  obtain ⟨xs, hxs⟩ : ∃ xs, wordsB s = xs := ⟨_, rfl⟩
  have hlen : xs.length ≤ s.size := by rw [← hxs]; unfold wordsB; rw [List.length_map]; exact spW_len s
  rw [hxs] at hF HL0 HL1 HL2 hne
  clear hL hxs
  have HF := Lib.hid hF
  clear hF
  go_enter Tryd.func20, Tryd.ntmps20
  go_wp2_with fail
  refine HF.out.mono ?_
  rintro e w1 ⟨A, rfl, hA, hown, hb⟩
  obtain ⟨A2, cap, hv, hc1, hc2, HS, HT, hA0, hAb⟩ := own_srow (xs := xs) hown
  injection hv with hv1 hv2 hv3
  subst hv1 hv3
  clear hv2
  rcases xs with _ | ⟨x, r⟩
  · have HE : Hid (L = []) := Lib.hid (HL0.out rfl)
    have HB := Lib.hid hb
    clear HF HL0 HL1 HL2 hne hown HS HT hA0 hAb hb hlen
    go_wp2_with fail
    go_ret
    rw [HE.out]; exact wordsR_nil _ _ HB.out
  · have hx0 := (hne x (by simp)).1
    have hx1 := (hne x (by simp)).2
    have hc0 : w1.cell? ⟨A, 0, none⟩ = some (.string x) := by
      obtain ⟨ad, e, _, hx⟩ := HS 0 x rfl
      injection e with e; subst e
      exact hx
    have hl0 : (((r.length + 1 : Nat) : Int) == 0) = false := by rw [beq_eq_false_iff_ne]; omega
    have hl1 : 0 < r.length + 1 := by omega
    have hlc : (x :: r).length = r.length + 1 := rfl
    rw [hlc] at *
    clear hlc
    obtain ⟨n, hn⟩ : ∃ n, r.length + 1 = n := ⟨_, rfl⟩
    by_cases h35 : x.get! 0 = 35
    · have e0 : ((x[0].toNat : Int) == 35) = true := by rw [getB x 0 hx0] at h35; rw [h35]; rfl
      have HE : Hid (L = []) := Lib.hid (HL1.out x r rfl h35)
      have HB := Lib.hid hb
      clear HF HL0 HL1 HL2 hne hown HS HT hA0 hAb hb h35
      rw [hn] at *
      clear hn
      go_wp2_with fail
      all_goals (go_ret; rw [HE.out]; exact wordsR_nil _ _ HB.out)
    · have e0 : ((x[0].toNat : Int) == 35) = false := by
        rw [getB x 0 hx0] at h35
        rw [beq_eq_false_iff_ne]; intro e; exact h35 (UInt8.toNat_inj.1 (by simpa using (by exact_mod_cast e : x[0].toNat = 35)))
      have HE : Hid (L = x :: r) := Lib.hid (HL2.out x r rfl h35)
      have HB := Lib.hid (show WordsR (x :: r) w (.returned (.slice (some ⟨A, 0, none⟩) (r.length + 1) (r.length + 1))) w1 from ⟨_, _, rfl, Nat.le_refl _, hc2, HS, HT, hA0, hAb, hb⟩)
      clear HF HL0 HL1 HL2 hne hown HS HT hA0 hAb hb h35
      rw [hn] at hl0 hl1 ⊢
      go_wp2_with fail
      all_goals (go_ret; rw [HE.out, ← hn]; exact HB.out)
end Go.Proofs.YtnhnphifhkkboaaDoor
