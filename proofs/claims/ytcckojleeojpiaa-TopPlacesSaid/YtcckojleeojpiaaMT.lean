/-
  Plain facts: an address's text is read again; what is cut at a colon.
-/
import Derived.Test.YtcckojleeojpiaaPhys3
import Derived.Test.YtcckojleeojpiaaSh1
namespace Go.Proofs.Ytcckojleeojpiaa
open Go.RowKit
set_option linter.unusedVariables false
def toB (n : Int) : UInt8 := UInt8.ofNat n.toNat
theorem dig_val (c : UInt8) (h : valB c.toNat = true) : toB (digI (valI c.toNat).toNat) = c := by
  have : ∀ n : Nat, n < 256 → valB n = true → toB (digI (valI n).toNat) = UInt8.ofNat n := by decide +kernel
  have := this c.toNat (UInt8.toNat_lt c) h
  rw [this]; simp
theorem hex_num (r : List UInt8) : ∀ l : List UInt8, l.reverse = r → allV l = true → (hexL (numL l) l.length).map toB = l := by
  induction r with
  | nil => intro l h _; have : l = [] := by simpa using h
           subst this; rfl
  | cons c r ih =>
    intro l h ha
    obtain ⟨m, rfl⟩ : ∃ m, l = m ++ [c] := ⟨r.reverse, by rw [← List.reverse_reverse l, h, List.reverse_cons]⟩
    have hr : m.reverse = r := by simpa using h
    rw [allV_snoc, Bool.and_eq_true] at ha
    have := ih m hr ha.1
    have nb := numL_bd m
    have vb := valI_bd c.toNat
    rw [numL_snoc, List.length_append, List.length_singleton, hexL, List.map_append, List.map_singleton]
    rw [show (16 * numL m + valI c.toNat) / 16 = numL m by omega, show (16 * numL m + valI c.toNat) % 16 = valI c.toNat by omega, this, dig_val c ha.2]
theorem hex_num' (l : List UInt8) (h : allV l = true) : (hexL (numL l) l.length).map toB = l := hex_num _ l rfl h
theorem valB_colon : valB 58 = false := by decide
theorem index_digits (l r : List UInt8) (h : allV l = true) : Lib.indexByte (l ++ 58 :: r) 58 = l.length := by
  induction l with
  | nil => simp [Lib.indexByte]
  | cons c l ih =>
    have h2 : valB c.toNat = true ∧ allV l = true := by simpa [allV] using h
    have hc : (c == 58) = false := by
      rw [beq_eq_false_iff_ne]; intro e; subst e; have := h2.1; revert this; decide
    have := ih h2.2
    rw [List.cons_append, Lib.indexByte, hc, this]
    simp
theorem index_lt (l : List UInt8) (c : UInt8) : Lib.indexByte l c < l.length := by
  induction l with
  | nil => simp [Lib.indexByte]
  | cons b l ih =>
    rw [Lib.indexByte, List.length_cons]
    split
    · omega
    · split <;> omega
/-- What stands ahead of the first colon, and behind it. -/
def cutH (l : List UInt8) : List UInt8 := if 0 ≤ Lib.indexByte l 58 then l.take (Lib.indexByte l 58).toNat else l
def cutL (l : List UInt8) : List UInt8 := if 0 ≤ Lib.indexByte l 58 then l.drop ((Lib.indexByte l 58).toNat + 1) else []
def mkB (l : List UInt8) : ByteArray := ⟨l.toArray⟩
theorem mkB_list (s : ByteArray) : mkB s.data.toList = s := rfl
/-- The address that an order of letters tells, whatever it is. -/
def adrL (l : List UInt8) : Int := (fhA (mkB (cutH l))).1 % 256 * 8192 + (fhA (mkB (cutL l))).1 % 65536 % 8192
def textB (a : Int) : List UInt8 := (textL a).map toB
theorem text_of (a : Int) : strOfNums (textL a) = mkB (textB a) := by
  unfold strOfNums mkB textB; rfl
def ofL (l : List UInt8) : Int × Int := if textB (adrL l) = l then (adrL l, 0) else (0, 3)
def refL (l : List UInt8) : Int × Int :=
  if l.length = 7 ∧ l[2]? = some 58 then
    (if (fhA (mkB (l.take 2))).2 = 0 ∧ (fhA (mkB (l.drop 3))).2 = 0 ∧ (fhA (mkB (l.drop 3))).1 < 8192 then ((fhA (mkB (l.take 2))).1 * 8192 + (fhA (mkB (l.drop 3))).1, 0) else (0, 3))
  else (0, 3)
theorem fh_ok (l : List UInt8) (h0 : 0 < l.length) (h8 : l.length ≤ 8) (ha : allV l = true) : fhA (mkB l) = (numL l, 0) := by
  have hs : (mkB l).size = l.length := by show (mkB l).data.size = _; simp [mkB]
  unfold fhA; rw [if_neg (by omega), if_neg (by omega)]
  unfold fhR; rw [show (mkB l).data.toList = l by simp [mkB], if_pos ha]
theorem fh_no (l : List UInt8) (ha : ¬ allV l = true) : (fhA (mkB l)).2 ≠ 0 := by
  unfold fhA
  split
  · decide
  · split
    · decide
    · unfold fhR; rw [show (mkB l).data.toList = l by simp [mkB], if_neg ha]; decide
theorem fh_valid (l : List UInt8) (h : (fhA (mkB l)).2 = 0) : allV l = true := by
  by_cases ha : allV l = true
  · exact ha
  · exact absurd h (fh_no l ha)
theorem allV_hex (n : Int) (k : Nat) (h : 0 ≤ n) : allV ((hexL n k).map toB) = true ∧ numL ((hexL n k).map toB) = n % 16 ^ k := ⟨(num_hexL k n h).2, (num_hexL k n h).1⟩
theorem textB_form (a : Int) : textB a = (hexL (bankI a) 2).map toB ++ 58 :: (hexL (offI a) 4).map toB := by
  unfold textB textL; simp [toB]
theorem adr_bd (l : List UInt8) : 0 ≤ adrL l ∧ adrL l < 2097152 := by unfold adrL; omega
theorem ref_text (a : Int) (h0 : 0 ≤ a) (h1 : a < 2097152) : refL (textB a) = (a, 0) := by
  have bb := bankI_bd a
  have ob := offI_bd a
  have e1 : ((hexL (bankI a) 2).map toB).length = 2 := by simp [hexL_len]
  have e2 : ((hexL (offI a) 4).map toB).length = 4 := by simp [hexL_len]
  obtain ⟨v1, n1⟩ := allV_hex (bankI a) 2 bb.1
  obtain ⟨v2, n2⟩ := allV_hex (offI a) 4 ob.1
  rw [show (16 : Int) ^ 2 = 256 by decide, Int.emod_eq_of_lt bb.1 (by omega)] at n1
  rw [show (16 : Int) ^ 4 = 65536 by decide, Int.emod_eq_of_lt ob.1 (by omega)] at n2
  have f1 := fh_ok _ (by omega) (by omega) v1
  have f2 := fh_ok _ (by omega) (by omega) v2
  rw [n1] at f1
  rw [n2] at f2
  rw [textB_form]
  generalize (hexL (bankI a) 2).map toB = x at *
  generalize (hexL (offI a) 4).map toB = y at *
  unfold refL
  have t1 : (x ++ 58 :: y).take 2 = x := by rw [← e1]; simp
  have t2 : (x ++ 58 :: y).drop 3 = y := by rw [show 3 = x.length + 1 by omega, ← List.drop_drop]; simp
  rw [t1, t2, f1, f2, if_pos ⟨by simp; omega, by rw [← e1]; simp⟩, if_pos ⟨rfl, rfl, by show offI a < 8192; omega⟩]
  show (bankI a * 8192 + offI a, (0 : Int)) = _
  unfold bankI offI; congr 1; omega
theorem of_ref (l : List UInt8) : ofL l = refL l := by
  unfold ofL
  by_cases h : textB (adrL l) = l
  · rw [if_pos h]
    conv => rhs; rw [← h]
    rw [ref_text _ (adr_bd l).1 (adr_bd l).2]
  · rw [if_neg h]
    unfold refL
    by_cases c : l.length = 7 ∧ l[2]? = some 58
    · rw [if_pos c]
      by_cases d : (fhA (mkB (l.take 2))).2 = 0 ∧ (fhA (mkB (l.drop 3))).2 = 0 ∧ (fhA (mkB (l.drop 3))).1 < 8192
      · exfalso
        obtain ⟨c1, c2⟩ := c
        obtain ⟨d1, d2, d3⟩ := d
        have v1 := fh_valid _ d1
        have v2 := fh_valid _ d2
        have l1 : (l.take 2).length = 2 := by simp; omega
        have l2 : (l.drop 3).length = 4 := by simp; omega
        have e : l = l.take 2 ++ 58 :: l.drop 3 := by
          have h2 : l.drop 2 = 58 :: l.drop 3 := by
            rw [List.drop_eq_getElem_cons (by omega : 2 < l.length)]
            congr 1
            rw [List.getElem?_eq_getElem (by omega : 2 < l.length)] at c2
            injection c2
          rw [← h2, List.take_append_drop]
        have ix : Lib.indexByte l 58 = 2 := by
          rw [e, index_digits _ _ v1, l1]; rfl
        have k1 : cutH l = l.take 2 := by unfold cutH; rw [ix]; rfl
        have k2 : cutL l = l.drop 3 := by unfold cutL; rw [ix]; rfl
        have f1 := fh_ok _ (by omega) (by omega) v1
        have f2 := fh_ok _ (by omega) (by omega) v2
        have b1 := numL_bd (l.take 2)
        have b2 := numL_bd (l.drop 3)
        rw [l1] at b1
        rw [l2] at b2
        have h1 := hex_num' _ v1
        have h2 := hex_num' _ v2
        rw [l1] at h1
        rw [l2] at h2
        rw [f2] at d3
        have d3' : numL (l.drop 3) < 8192 := d3
        have b1' : numL (l.take 2) < 256 := b1.2
        have ea : adrL l = numL (l.take 2) * 8192 + numL (l.drop 3) := by
          unfold adrL; rw [k1, k2, f1, f2]
          show numL (l.take 2) % 256 * 8192 + numL (l.drop 3) % 65536 % 8192 = _
          omega
        apply h
        rw [textB_form, ea]
        have g1 : bankI (numL (l.take 2) * 8192 + numL (l.drop 3)) = numL (l.take 2) := by unfold bankI; omega
        have g2 : offI (numL (l.take 2) * 8192 + numL (l.drop 3)) = numL (l.drop 3) := by unfold offI; omega
        rw [g1, g2, h1, h2]
        exact e.symm
      · rw [if_neg d]
    · rw [if_neg c]
end Go.Proofs.Ytcckojleeojpiaa
