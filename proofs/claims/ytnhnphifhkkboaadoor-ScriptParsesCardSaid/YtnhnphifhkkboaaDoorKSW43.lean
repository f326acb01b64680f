/-
  Texts of these proofs, one behind the other: Scr31, Scr32.
-/
import Derived.Test.YtnhnphifhkkboaaDoorKSW41
import Derived.Test.YtnhnphifhkkboaaDoorKSW42
import Derived.Test.YtnhnphifhkkboaaDoorKSW10
import Derived.Test.YtnhnphifhkkboaaDoorKSW06
namespace Go.Proofs.YtnhnphifhkkboaaDoor
open Go.RowKit Go.Shelf
set_option linter.unusedVariables false
set_option linter.unusedSimpArgs false
set_option maxRecDepth 100000
/-- Words, with blanks between. -/
def joinB (ws : List ByteArray) : ByteArray := ⟨(Lib.join (ws.map (·.data.toList)) [32]).toArray⟩
def pow10T (w : World) : Prop := Lib.TabIs Tryd.prog w "internal/strconv.uint64pow10" .u64 Lib.pow10Tab
theorem scwords_any {w : World} (ws : List ByteArray) (bk o c : Nat) (HS : SRow w (some ⟨bk, o, none⟩) ws) (h0 : 0 < ws.length) (hc : ws.length ≤ c) (hn : ws.length ≤ 140737488355328) (hl : (joinB ws).size ≤ 140737488355328) :
    Calls Tryd.prog 56 #[.slice (some ⟨bk, o, none⟩) ws.length c] w fun e w' => e = .returned (.string (joinB ws ++ ⟨#[10]⟩)) ∧ Below w.heap.size w w' := by
  have hbk : bk < w.heap.size := by
    obtain ⟨ad', e', h1, _⟩ := HS 0 ws[0] (List.getElem?_eq_getElem h0)
    injection e' with e'
    rw [← e'] at h1
    exact h1
  have HJ := sh_strings_Join bk o c ws ⟨#[32]⟩ w (fun j x hx => by
    obtain ⟨ad', e', _, h2⟩ := HS j x hx
    injection e' with e'
    rw [← e'] at h2
    have ha : (⟨bk, o, none⟩ : Addr).add j = ⟨bk, o + j, none⟩ := by
      unfold Addr.add; split
      · rename_i hj; subst hj; rfl
      · rfl
    rw [ha] at h2
    exact h2) hbk hn hc hl
  have hj : (⟨(Lib.join (ws.map (·.data.toList)) (⟨#[32]⟩ : ByteArray).data.toList).toArray⟩ : ByteArray) = joinB ws := rfl
  rw [hj] at HJ
  obtain ⟨J, hJ⟩ : ∃ J, joinB ws = J := ⟨_, rfl⟩
  rw [hJ] at HJ hl ⊢
  obtain ⟨n, hnn⟩ : ∃ n, ws.length = n := ⟨_, rfl⟩
  rw [hnn] at HJ hc hn ⊢
  clear HS h0 hj hJ hnn
  go_enter Tryd.func56, Tryd.ntmps56
  go_wp2_with (go_at_call 54; refine HJ.mono ?_; rintro e w' ⟨rfl, hb⟩)
  all_goals (go_ret; exact ⟨rfl, hb⟩)
theorem below_grow_ (w : World) (k : Nat) (os : Array Obj) : Below w.heap.size w (Go.Sort.grow (w.drewN k) os) :=
  ⟨rfl, rfl, rfl, by show w.heap.size ≤ (w.heap ++ os).size; rw [Array.size_append]; omega, fun j hj => by show (w.heap ++ os)[j]? = _; rw [Array.getElem?_append_left hj]⟩
/-- A number's decimal digits. -/
def itoB (n : Int) : ByteArray := ⟨(Lib.itoa n).toArray⟩
theorem scdecimal_any (n : Int) (h0 : -9223372036854775808 ≤ n) (h1 : n ≤ 9223372036854775807) (w : World) (ht : pow10T w) :
    Calls Tryd.prog 57 #[.int .i64 n] w fun e w' => e = .returned (.string (itoB n)) ∧ Below w.heap.size w w' := by
  have HF := sh_strconv_FormatInt_10 n h0 h1 w ht
  have hi : (⟨(Lib.itoa n).toArray⟩ : ByteArray) = itoB n := rfl
  rw [hi] at HF
  obtain ⟨B, hB⟩ : ∃ B, itoB n = B := ⟨_, rfl⟩
  rw [hB] at HF ⊢
  clear hB hi
  go_enter Tryd.func57, Tryd.ntmps57
  go_wp2_with (go_at_call 68; refine HF.mono ?_; rintro e w' ⟨rfl, k, os, rfl⟩)
  all_goals (go_ret; exact ⟨rfl, below_grow_ _ _ _⟩)
end Go.Proofs.YtnhnphifhkkboaaDoor
namespace Go.Proofs.YtnhnphifhkkboaaDoor
open Go.RowKit Go.Shelf
set_option linter.unusedVariables false
set_option linter.unusedSimpArgs false
set_option maxRecDepth 100000
/-- Two digits. -/
def hx2 (x : Int) : ByteArray := strOfNums (hexL x 2)
theorem hx2_len (x : Int) : (hx2 x).data.toList.length = 2 := by
  unfold hx2
  rw [strOf_list]
  simp [hexL]
/-- Digits of the first n bytes, word by word. -/
def dgL (z : Nat → Int) (n : Nat) : List ByteArray := (List.range n).map fun i => hx2 (z i)
theorem dgL_len (z : Nat → Int) (n : Nat) : (dgL z n).length = n := by simp [dgL]
theorem dgL_succ (z : Nat → Int) (n : Nat) : dgL z (n + 1) = dgL z n ++ [hx2 (z n)] := by simp [dgL, List.range_succ]
theorem lens_two : ∀ l : List (List UInt8), (∀ x ∈ l, x.length = 2) → Lib.lens l = 2 * l.length
  | [], _ => rfl
  | x :: r, h => by
    have h1 := h x (by simp)
    have h2 := lens_two r (fun y hy => h y (List.mem_cons_of_mem _ hy))
    unfold Lib.lens at h2 ⊢
    simp only [List.map_cons, List.sum_cons, List.length_cons]
    omega
theorem dgJ_size (z : Nat → Int) (n : Nat) (hn : n ≤ 1000000) : (joinB (dgL z n)).size ≤ 140737488355328 := by
  cases n with
  | zero => show (Lib.join [] [32]).toArray.size ≤ _; decide
  | succ n =>
    have hl : (dgL z (n + 1)).length = n + 1 := dgL_len z (n + 1)
    cases hd : dgL z (n + 1) with
    | nil => rw [hd] at hl; simp at hl
    | cons x r =>
      rw [hd] at hl
      have h2 : ∀ y ∈ ((x :: r).map (·.data.toList)), y.length = 2 := fun y hy => by
        rw [← hd] at hy
        obtain ⟨q, hq, rfl⟩ := List.mem_map.1 hy
        obtain ⟨i, _, rfl⟩ := List.mem_map.1 hq
        exact hx2_len _
      have h3 := lens_two _ h2
      have h4 := Lib.join_length x.data.toList (r.map (·.data.toList)) [32]
      show (Lib.join ((x :: r).map (·.data.toList)) [32]).toArray.size ≤ _
      rw [List.size_toArray, List.map_cons, h4]
      rw [List.map_cons] at h3
      rw [h3]
      simp only [List.length_cons, List.length_map, List.length_nil] at hl ⊢
      omega
/-- Words of the call's own, joined. -/
theorem scjoin_own {w : World} {B : Nat} {v : Value} {xs : List ByteArray} (h : w.ownsRow B 9 1 v xs.length (xs.map Value.string)) (hN : xs.length ≤ 140737488355328) (hl : (joinB xs).size ≤ 140737488355328) :
    Calls Tryd.prog 54 #[v, .string ⟨#[32]⟩] w fun e w' => e = .returned (.string (joinB xs)) ∧ Below w.heap.size w w' := by
  rcases h.2 with ⟨rfl, h0⟩ | ⟨g, cap, cur, hv, _⟩
  · have : xs = [] := List.length_eq_zero_iff.1 h0
    subst this
    refine (sh_strings_Join_none none 0 ⟨#[32]⟩ w).mono ?_
    rintro e w' ⟨rfl, rfl⟩
    exact ⟨rfl, Below.refl _ _⟩
  · obtain ⟨A, cap', e1, h1, h2, h3, _, _, _⟩ := own_srow h
    rw [hv] at e1
    injection e1 with e1 e2 e3
    subst e1
    subst hv
    subst e3
    rcases Nat.eq_zero_or_pos xs.length with h0 | h0
    · have : xs = [] := List.length_eq_zero_iff.1 h0
      subst this
      refine (sh_strings_Join_none _ cap ⟨#[32]⟩ w).mono ?_
      rintro e w' ⟨rfl, rfl⟩
      exact ⟨rfl, Below.refl _ _⟩
    · exact sh_strings_Join g 0 cap xs ⟨#[32]⟩ w (fun j x hx => by
        obtain ⟨ad', e', _, h4⟩ := h3 j x hx
        injection e' with e'
        rw [← e'] at h4
        have ha : (⟨g, 0, none⟩ : Addr).add j = ⟨g, 0 + j, none⟩ := by
          unfold Addr.add; split
          · rename_i hj; subst hj; rfl
          · rfl
        rw [ha] at h4
        exact h4) (by
        obtain ⟨ad', e', h4, _⟩ := h3 0 xs[0] (List.getElem?_eq_getElem h0)
        injection e' with e'
        rw [← e'] at h4
        exact h4) hN h1 hl
set_option maxHeartbeats 8000000 in
theorem scdigits_any {w : World} {A : Option Addr} {n c : Nat} {z : Nat → Int} (hn : n ≤ 1000000) (R : IRow w .u8 A n z) :
    Calls Tryd.prog 108 #[.slice A n c] w fun e w' => e = .returned (.string (joinB (dgL z n))) ∧ Below w.heap.size w w' := by
  have hsz := dgJ_size z n hn
  go_enter Tryd.func108, Tryd.ntmps108
  go_wp2_with fail
  go_loopw [3, 8] (fun v i wr => ∃ k : Nat, k ≤ n ∧ i = .int .i64 (k : Int) ∧ wr.ownsRow w.heap.size 9 1 v k ((dgL z k).map Value.string) ∧ Below w.heap.size w wr) (fun _ i _ => n - (intOf i).toNat)
  case atStart => exact ⟨0, by omega, rfl, World.ownsRow_nil _ _ _ _, Below.refl _ _⟩
  case round =>
    obtain ⟨k, hk, rfl, own, hB⟩ := hrel
    by_cases hlt : k < n
    · obtain ⟨ad, rfl, _, hx, hw⟩ := R.keep hB k hlt
      obtain ⟨b0, b1⟩ : 0 ≤ z k ∧ z k ≤ 255 := by
        have := hw
        simp [Lit.wf, IntKind.min, IntKind.max, IntKind.signed, IntKind.bits] at this
        omega
      have hD := dgL_succ z k
      obtain ⟨b, hb⟩ : ∃ b, z k = b := ⟨_, rfl⟩
      rw [hb] at hx b0 b1 hD
      have HH := fun W => hex_any b 2 W b0 (by omega)
      have h2 : strOfNums (hexL b (held8 2)) = hx2 b := rfl
      rw [h2] at HH
      have e1 : IntKind.u32.wrap b = b := IntWalk.u32_in _ (by omega)
      have HD := Lib.hid hD
      have OWN := Lib.hid own
      have HB := Lib.hid hB
      obtain ⟨S, hS⟩ : ∃ S, hx2 b = S := ⟨_, rfl⟩
      rw [hS] at HH HD
      clear own hB hw hb hD h2 hS hsz
      go_wp2_with fail
      refine (HH _).mono ?_
      rintro e w1 ⟨rfl, b1'⟩
      have own1 := own_kp OWN.out (Kp.of_below (L := []) b1') (by simp)
      obtain ⟨v', w3, hrun, own3, hB3, _⟩ := sr_more own1 (HB.out.trans (b1'.mono HB.out.size)) (Nat.le_trans HB.out.size b1'.size) (by omega) S
      have OWN3 : Hid (w3.ownsRow w.heap.size 9 1 v' (k + 1) ((dgL z (k + 1)).map Value.string)) := Lib.hid (by rw [HD.out, List.map_append]; exact own3)
      have HB3 := Lib.hid hB3
      clear own1 own3 hB3 b1' HH
      go_wp2_with (at_builtin; refine wpList_append_run rfl (.tmp 12) (.tmp 16) 45 rfl rfl rfl hrun ?_)
      go_roundw
      case rel => exact ⟨k + 1, by omega, by go_num, OWN3.out, HB3.out⟩
      case measure => simp [intOf]; omega
    · obtain rfl : k = n := by omega
      have HJ := scjoin_own (xs := dgL z k) (w := wr) (B := w.heap.size) (by rw [dgL_len]; exact own) (by rw [dgL_len]; omega) hsz
      obtain ⟨J, hJ⟩ : ∃ J, joinB (dgL z k) = J := ⟨_, rfl⟩
      rw [hJ] at HJ
      have HJE := Lib.hid hJ
      have HB := Lib.hid hB
      clear own hB hsz hJ
      go_wp2_with (go_at_call 54; refine HJ.mono ?_; rintro e w' ⟨rfl, hb⟩)
      all_goals (go_ret; exact ⟨by rw [HJE.out]; rfl, HB.out.trans (hb.mono HB.out.size)⟩)
end Go.Proofs.YtnhnphifhkkboaaDoor
