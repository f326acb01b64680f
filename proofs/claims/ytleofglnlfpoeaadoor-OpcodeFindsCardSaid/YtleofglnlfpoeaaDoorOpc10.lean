/-
  Opcode: what must be whatever is asked.
-/
import Derived.Test.YtleofglnlfpoeaaDoorOpc9
namespace Go.Proofs.YtleofglnlfpoeaaDoor
open Go.RowKit Go.Sort
set_option linter.unusedVariables false
set_option linter.unusedSimpArgs false
set_option maxRecDepth 100000
theorem q23_find {w : World} : Calls Tryd.prog 16 #[.string ⟨#[76, 68, 65]⟩, .int .u8 1] w fun e w' => e = .returned (.tuple #[.int .u8 169, .bool true]) ∧ Below w.heap.size w w' :=
  asV (ofind_any (mkS [76, 68, 65]) 1 w) (by rw [mkS_toList, show findF [76, 68, 65] 1 (knL 256) = some ⟨169, by decide⟩ by decide +kernel]; rfl)
theorem q23_none {w : World} : Calls Tryd.prog 16 #[.string ⟨#[76, 68, 65]⟩, .int .u8 11] w fun e w' => e = .returned (.tuple #[.int .u8 0, .bool false]) ∧ Below w.heap.size w w' :=
  asV (ofind_any (mkS [76, 68, 65]) 11 w) (by rw [mkS_toList, show findF [76, 68, 65] 11 (knL 256) = none by decide +kernel]; rfl)
theorem q23_of73 {w : World} : Calls Tryd.prog 13 #[.int .u8 115] w fun e w' => e = .returned (.agg #[.string ⟨#[84, 73, 73]⟩, .int .u8 19, .int .i64 7, .int .i64 17]) ∧ Below w.heap.size w w' := asV (oof_any 115 (by decide) w) (by kernel_rfl)
theorem q23_of0b {w : World} : Calls Tryd.prog 13 #[.int .u8 11] w fun e w' => e = .returned (.agg #[.string ⟨#[78, 79, 80]⟩, .int .u8 0, .int .i64 1, .int .i64 2]) ∧ Below w.heap.size w w' := asV (oof_any 11 (by decide) w) (by kernel_rfl)
theorem q23_e2 {w : World} : Calls Tryd.prog 15 #[.int .u8 226] w fun e w' => e = .returned (.bool false) ∧ w = w' := asV (oknown_any 226 (by decide) w) (by kernel_rfl)
theorem q23_ea {w : World} : Calls Tryd.prog 15 #[.int .u8 234] w fun e w' => e = .returned (.bool true) ∧ w = w' := asV (oknown_any 234 (by decide) w) (by kernel_rfl)
theorem q23_modes {w : World} : Calls Tryd.prog 18 #[.string ⟨#[83, 84, 90]⟩] w fun e w' => (∃ g cap, e = .returned (.slice (some ⟨g, 0, none⟩) 4 cap)) ∧ Below w.heap.size w w' :=
  (omodes_any (mkS [83, 84, 90]) w).mono fun e w' h => by
    obtain ⟨v, rfl, own, hb⟩ := h
    rw [mkS_toList, show (mdL [83, 84, 90] (knL 256)).length = 3 + 1 by decide +kernel] at own
    obtain ⟨g, cap, rfl⟩ := ownsRow_succ own
    exact ⟨⟨g, cap, rfl⟩, hb⟩
theorem q23_names {w : World} : Calls Tryd.prog 19 #[] w fun e w' => (∃ g cap n, e = .returned (.slice (some ⟨g, 0, none⟩) n cap) ∧ n = unqN.length) ∧ Below w.heap.size w w' :=
  (onames_any w).mono fun e w' h => by
    obtain ⟨v, rfl, own, hb⟩ := h
    have hl : allN.length = unqN.length := by rw [allN_eq, List.length_map]
    rw [hl, unq_len] at own
    obtain ⟨g, cap, rfl⟩ := ownsRow_succ own
    exact ⟨⟨g, cap, _, rfl, by rw [unq_len]⟩, hb⟩
def z23 : Nat → Int := fun i => [234, 169, 5, 76].getD i 0
theorem q23_walk {w : World} {g : Nat} (hb : Blk w g 5 #[.int .u8 234, .int .u8 169, .int .u8 5, .int .u8 76]) : Calls Tryd.prog 20 #[.slice (some ⟨g, 0, none⟩) 4 4] w fun e w' =>
    (∃ g2 cap, e = .returned (.tuple #[.slice (some ⟨g2, 0, none⟩) 2 cap, .int .i64 3]) ∧ w'.cell? ⟨g2, 1, none⟩ = some (.int .i64 1)) ∧ Below w.heap.size w w' := by
  refine (owalk_any (some ⟨g, 0, none⟩) 4 4 z23 (by omega) w ?_).mono fun e w' h => ?_
  · intro i hi
    refine ⟨⟨g, 0, none⟩, rfl, hb.lt, ?_, ?_⟩
    · have := hb.cell i
      have hi : i = 0 ∨ i = 1 ∨ i = 2 ∨ i = 3 := by omega
      rcases hi with rfl | rfl | rfl | rfl <;> simpa [Addr.add, z23] using this
    · have hi : i = 0 ∨ i = 1 ∨ i = 2 ∨ i = 3 := by omega
      rcases hi with rfl | rfl | rfl | rfl <;> decide
  · obtain ⟨v, m, rfl, own, hall, hpn, hend, hB⟩ := h
    have p1 : posN z23 1 = 1 := by kernel_rfl
    have p2 : posN z23 2 = 3 := by kernel_rfl
    have s0 : szN (z23 0) = 1 := by kernel_rfl
    have s1 : szN (z23 1) = 2 := by kernel_rfl
    have s3 : szN (z23 3) = 3 := by kernel_rfl
    have p0 : posN z23 0 = 0 := rfl
    have hm : m = 2 := by
      rcases Nat.lt_or_ge m 3 with h | h
      · have : m = 0 ∨ m = 1 ∨ m = 2 := by omega
        rcases this with rfl | rfl | rfl
        · exfalso; rw [p0, s0] at hend; omega
        · exfalso; rw [p1, s1] at hend; omega
        · rfl
      · exfalso
        have := hall 2 (by omega)
        rw [p2, s3] at this
        omega
    subst hm
    obtain ⟨g2, cap, rfl⟩ := ownsRow_succ own
    refine ⟨⟨g2, cap, by rw [p2]; rfl, ?_⟩, hB⟩
    have h3 := own.2
    rcases h3 with ⟨h, _⟩ | ⟨g3, cap3, cur, h, _, hb3, _, _, hs3, ht3⟩
    · cases h
    · cases h
      have e1 : (cur.toList.take (2 * 1))[1]? = (posV z23 2)[1]? := by rw [ht3]
      rw [show (posV z23 2)[1]? = some (.int .i64 1) by kernel_rfl, List.getElem?_take, if_pos (by omega), Array.getElem?_toList] at e1
      simp [World.cell?, hb3, e1]
set_option maxHeartbeats 8000000 in
theorem live23 {w : World} : Calls Tryd.prog 12 #[] w fun e w' => e = .returned (.bool true) ∧ Below w.heap.size w w' := by
  have HB0 := Lib.hid (Below.refl w.heap.size w)
  go_enter Tryd.func12, Tryd.ntmps12
  go_wp2_with fail
  refine (q23_find).mono ?_
  rintro e w1 ⟨rfl, b⟩
  have HB1 := Lib.hid (HB0.out.trans (b.mono HB0.out.size))
  clear b
  go_wp2_with fail
  refine (q23_none).mono ?_
  rintro e w2 ⟨rfl, b⟩
  have HB2 := Lib.hid (HB1.out.trans (b.mono HB1.out.size))
  clear b
  go_wp2_with fail
  have hX := Blk.new w2 5 #[.int .u8 234, .int .u8 169, .int .u8 5, .int .u8 76]
  have hB3 : Below w.heap.size w (w2.alloc (.cells #[.int .u8 234, .int .u8 169, .int .u8 5, .int .u8 76] 5)) := HB2.out.alloc HB2.out.size _
  refine (q23_walk hX).mono ?_
  rintro e w4 ⟨⟨g2, cap2, rfl, hc1⟩, b⟩
  have HB4 := Lib.hid (hB3.trans (b.mono hB3.size))
  clear b hX hB3
  go_wp2_with fail
  refine (q23_of73).mono ?_
  rintro e w5 ⟨rfl, b⟩
  have HB5 := Lib.hid (HB4.out.trans (b.mono HB4.out.size))
  have hl2 := cell_lt hc1
  replace hc1 := (b.cell (by exact hl2)).trans hc1
  clear b
  go_wp2_with fail
  refine (q23_of0b).mono ?_
  rintro e w6 ⟨rfl, b⟩
  have HB6 := Lib.hid (HB5.out.trans (b.mono HB5.out.size))
  have hl2 := cell_lt hc1
  replace hc1 := (b.cell (by exact hl2)).trans hc1
  clear b
  go_wp2_with fail
  refine (q23_e2).mono ?_
  rintro e w' ⟨rfl, rfl⟩
  go_wp2_with fail
  refine (q23_ea).mono ?_
  rintro e w' ⟨rfl, rfl⟩
  go_wp2_with fail
  refine (q23_modes).mono ?_
  rintro e w7 ⟨⟨g3, cap3, rfl⟩, b⟩
  have HB7 := Lib.hid (HB6.out.trans (b.mono HB6.out.size))
  clear b hc1
  go_wp2_with fail
  refine (q23_names).mono ?_
  rintro e w8 ⟨⟨g4, cap4, n4, rfl, hn4⟩, b⟩
  have HB8 := Lib.hid (HB7.out.trans (b.mono HB7.out.size))
  rw [unq_len] at hn4
  subst hn4
  clear b
  go_wp2_with fail
  go_ret
  exact ⟨rfl, HB8.out⟩
end Go.Proofs.YtleofglnlfpoeaaDoor
