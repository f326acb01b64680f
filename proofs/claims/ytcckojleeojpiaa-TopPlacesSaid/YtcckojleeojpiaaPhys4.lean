/-
  What Of of phys and of its reference answer, for every text that can be read; they only make memory.
-/
import Derived.Test.YtcckojleeojpiaaMT
import Derived.WalkSpells
import Derived.Outline
namespace Go.Proofs.Ytcckojleeojpiaa
open Go.RowKit
set_option linter.unusedVariables false
theorem cut_take (s : ByteArray) (k : Nat) : s.extract 0 k = mkB (s.data.toList.take ((k : Int)).toNat) := by
  apply ByteArray.ext; apply Array.ext'
  simp [mkB]
theorem cut_drop (s : ByteArray) (k : Nat) : s.extract (k + 1) s.size = mkB (s.data.toList.drop (((k : Int)).toNat + 1)) := by
  apply ByteArray.ext; apply Array.ext'
  simp [mkB]
  exact List.take_of_length_le (by simp)
set_option maxHeartbeats 1000000 in
theorem lcut_any (s : ByteArray) (w : World) (hs : s.size ≤ maxLen) :
    Calls Try.prog 59 #[.string s, .string ⟨#[58]⟩] w fun e w' => (∃ b, e = .returned (.tuple #[.string (mkB (cutH s.data.toList)), .string (mkB (cutL s.data.toList)), .bool b])) ∧ Below w.heap.size w w' := by
  have ge := Lib.indexByte_ge s.data.toList 58
  have lt := index_lt s.data.toList 58
  unfold maxLen at hs
  unfold cutH cutL
  generalize hi : Lib.indexByte s.data.toList 58 = i at *
  have HI := Lib.hid hi
  clear hi
  by_cases h : 0 ≤ i
  · rw [if_pos h, if_pos h]
    obtain ⟨k, rfl⟩ := Int.eq_ofNat_of_zero_le h
    have hk : k < s.size := by have h2 : s.size = s.data.toList.length := rfl; omega
    have k0 : (0 : Int) ≤ k := by omega
    have k1 : (k : Int) ≤ s.size := by omega
    have k2 : (0 : Int) ≤ (k : Int) + 1 := by omega
    have k3 : (k : Int) + 1 ≤ s.size := by omega
    have k4 : IntKind.i64.wrap ((k : Int) + 1) = k + 1 := IntWalk.i64_in _ (by omega)
    have k5 : ((k : Int) + 1).toNat = k + 1 := by omega
    clear ge lt h
    go_enter Try.func59, Try.ntmps59
    go_wp2_with fail
    refine (sh_stringslite_Index_one s 58 _).mono ?_; rw [HI.out]; rintro e w' ⟨rfl, rfl⟩
    go_wp2_with fail
    go_quiet (fail)
    go_wp2_with fail
    go_ret3
    exact ⟨⟨_, by rw [← cut_take, ← cut_drop]; rfl⟩, below_drewN (Below.refl _ _) _⟩
  · rw [if_neg h, if_neg h]
    go_enter Try.func59, Try.ntmps59
    go_wp2_with fail
    refine (sh_stringslite_Index_one s 58 _).mono ?_; rw [HI.out]; rintro e w' ⟨rfl, rfl⟩
    go_wp2_with fail
    go_ret3
    exact ⟨⟨_, rfl⟩, Below.refl _ _⟩
theorem cut_any (s : ByteArray) (w : World) (hs : s.size ≤ maxLen) :
    Calls Try.prog 47 #[.string s, .string ⟨#[58]⟩] w fun e w' => (∃ b, e = .returned (.tuple #[.string (mkB (cutH s.data.toList)), .string (mkB (cutL s.data.toList)), .bool b])) ∧ Below w.heap.size w w' := by
  have HS := Lib.hid hs
  clear hs
  go_enter Try.func47, Try.ntmps47
  go_wp2_with fail
  refine (lcut_any s _ HS.out).mono ?_; rintro e w' ⟨⟨b, rfl⟩, hb⟩
  go_wp2_with fail
  go_ret3
  exact ⟨⟨_, rfl⟩, hb⟩
theorem mkB_size (l : List UInt8) : (mkB l).size = l.length := by show (mkB l).data.size = _; simp [mkB]
theorem cutH_len (l : List UInt8) : (cutH l).length ≤ l.length := by unfold cutH; split <;> simp; omega
theorem cutL_len (l : List UInt8) : (cutL l).length ≤ l.length := by unfold cutL; split <;> simp
theorem text_eq (a : Int) (s : ByteArray) : (strOfNums (textL a) = s) ↔ textB a = s.data.toList := by
  rw [text_of]
  constructor
  · rintro rfl; rfl
  · intro h; rw [h]; rfl
theorem valL_bd (l : List UInt8) (h : l.length ≤ 8) : 0 ≤ numL l ∧ numL l ≤ 4294967295 := by
  have b := numL_bd l
  have : (16 : Int) ^ l.length ≤ 16 ^ 8 := by
    obtain ⟨d, hd⟩ : ∃ d, 8 = l.length + d := ⟨8 - l.length, by omega⟩
    have h1 : (16 : Nat) ^ l.length ≤ 16 ^ 8 := Nat.pow_le_pow_right (by decide) h
    exact_mod_cast h1
  rw [show (16 : Int) ^ 8 = 4294967296 by decide] at this
  omega
theorem fhA_bd (s : ByteArray) : 0 ≤ (fhA s).1 ∧ (fhA s).1 ≤ 4294967295 := by
  unfold fhA
  split
  · decide
  · split
    · decide
    · unfold fhR; split
      · exact valL_bd _ (by have h2 : s.size = s.data.toList.length := rfl; omega)
      · decide
theorem str_ne {s t : ByteArray} (h : ¬ s = t) : (s.toList == t.toList) = false := by
  rw [beq_eq_false_iff_ne]
  intro e
  apply h
  rw [Lib.toList_data, Lib.toList_data] at e
  exact ByteArray.ext (Array.ext' e)
theorem chain4 {w w1 w2 w3 w4 : World} (h1 : Below w.heap.size w w1) (h2 : Below w1.heap.size w1 w2) (h3 : Below w2.heap.size w2 w3) (h4 : Below w3.heap.size w3 w4) : Below w.heap.size w w4 := by
  have z1 := h1.size
  have z2 := h2.size
  have z3 := h3.size
  exact ((h1.trans (h2.mono z1)).trans (h3.mono (by omega))).trans (h4.mono (by omega))
set_option maxHeartbeats 2000000 in
theorem of_any (s : ByteArray) (w : World) (hs : s.size ≤ maxLen) :
    Calls Try.prog 25 #[.string s] w fun e w' => e = .returned (.tuple #[.int .u32 (ofL s.data.toList).1, .int .i64 (ofL s.data.toList).2]) ∧ Below w.heap.size w w' := by
  have s1 : (mkB (cutH s.data.toList)).size ≤ maxLen := by rw [mkB_size]; exact Nat.le_trans (cutH_len _) hs
  have s2 : (mkB (cutL s.data.toList)).size ≤ maxLen := by rw [mkB_size]; exact Nat.le_trans (cutL_len _) hs
  have bd := adr_bd s.data.toList
  have HS := Lib.hid hs
  have S1 := Lib.hid s1
  have S2 := Lib.hid s2
  have TE := Lib.hid (text_eq (adrL s.data.toList) s)
  clear hs s1 s2
  unfold ofL
  have EA : Hid (adrL s.data.toList = (fhA (mkB (cutH s.data.toList))).1 % 256 * 8192 + (fhA (mkB (cutL s.data.toList))).1 % 65536 % 8192) := Lib.hid rfl
  obtain ⟨x, hx⟩ : ∃ x, mkB (cutH s.data.toList) = x := ⟨_, rfl⟩
  obtain ⟨y, hy⟩ : ∃ y, mkB (cutL s.data.toList) = y := ⟨_, rfl⟩
  have f1 := fhA_bd x
  have f2 := fhA_bd y
  rw [hx] at S1
  rw [hy] at S2
  rw [hx, hy] at EA
  generalize adrL s.data.toList = A at *
  have HX := Lib.hid hx
  have HY := Lib.hid hy
  clear hx hy
  obtain ⟨p, hp⟩ : ∃ p, fhA x = p := ⟨_, rfl⟩
  obtain ⟨q, hq⟩ : ∃ q, fhA y = q := ⟨_, rfl⟩
  rw [hp] at f1 EA
  rw [hq] at f2 EA
  have HP := Lib.hid hp
  have HQ := Lib.hid hq
  clear hp hq
  obtain ⟨p1, p2⟩ := p
  obtain ⟨q1, q2⟩ := q
  have W1 : IntKind.u8.wrap p1 = p1 % 256 := IntKind.wrap_u8 _
  have W2 : IntKind.u16.wrap q1 = q1 % 65536 := IntKind.wrap_u16 _
  by_cases h : strOfNums (textL A) = s
  · have h2 := TE.out.1 h
    rw [if_pos h2]
    clear h2
    go_enter Try.func25, Try.ntmps25
    go_wp2_with fail
    refine (cut_any s _ HS.out).mono ?_; rw [HX.out, HY.out]; rintro e w' ⟨⟨b, rfl⟩, hb⟩
    go_wp2_with fail
    refine (fromhex_any x _ S1.out).mono ?_; rw [HP.out]; rintro e w1 ⟨rfl, hb1⟩
    go_wp2_with fail
    refine (fromhex_any y _ S2.out).mono ?_; rw [HQ.out]; rintro e w2 ⟨rfl, hb2⟩
    go_wp2_with fail
    refine (addr_any _ _ _ (by omega) (by omega) (by omega) (by omega)).mono ?_; rw [← EA.out]; rintro e w3 ⟨rfl, rfl⟩
    go_wp2_with fail
    refine (text_any A _ (by omega) (by omega)).mono ?_; rintro e w4 ⟨rfl, hb4⟩
    go_wp2_with fail
    go_ret2
    exact ⟨rfl, chain4 hb hb1 hb2 hb4⟩
  · have h2 := mt TE.out.2 h
    rw [if_neg h2]
    clear h2
    have hne := str_ne h
    go_enter Try.func25, Try.ntmps25
    go_wp2_with fail
    refine (cut_any s _ HS.out).mono ?_; rw [HX.out, HY.out]; rintro e w' ⟨⟨b, rfl⟩, hb⟩
    go_wp2_with fail
    refine (fromhex_any x _ S1.out).mono ?_; rw [HP.out]; rintro e w1 ⟨rfl, hb1⟩
    go_wp2_with fail
    refine (fromhex_any y _ S2.out).mono ?_; rw [HQ.out]; rintro e w2 ⟨rfl, hb2⟩
    go_wp2_with fail
    refine (addr_any _ _ _ (by omega) (by omega) (by omega) (by omega)).mono ?_; rw [← EA.out]; rintro e w3 ⟨rfl, rfl⟩
    go_wp2_with fail
    refine (text_any A _ (by omega) (by omega)).mono ?_; rintro e w4 ⟨rfl, hb4⟩
    go_wp2_with fail
    go_ret2
    exact ⟨rfl, chain4 hb hb1 hb2 hb4⟩
end Go.Proofs.Ytcckojleeojpiaa
