/-
  Texts of these proofs, one behind the other: St14.
-/
import Derived.Test.YtnnfnjbfjgjgnaaDoorKST34
import Derived.Test.YtnnfnjbfjgjgnaaDoorKST38
import Derived.Test.YtnnfnjbfjgjgnaaDoorKST37
namespace Go.Proofs.YtnnfnjbfjgjgnaaDoor
open Go.RowKit
set_option linter.unusedVariables false
set_option linter.unusedSimpArgs false
set_option maxRecDepth 100000
abbrev sZ : Nat → Int := fun _ => 0
def sP : Nat → Int := fun j => if j = 5 then 57344 else 0
theorem sP_ok : StOk sP := fun i hi => by
  unfold sP mostP
  by_cases h : i = 5
  · subst h; rw [if_pos rfl, if_pos rfl]; decide
  · rw [if_neg h]
    exact ⟨Int.le_refl _, (mostP_bd i).1⟩
/-- All that is laid when the call begins. -/
structure Tabs (w : World) : Prop where
  nt : NT w
  at_ : AT w
  ft : FT w
theorem Tabs.below {w w' : World} (h : Tabs w) (hb : Below w.heap.size w w') : Tabs w' := ⟨h.nt.below hb, h.at_.below hb, FT.below h.ft hb⟩
def zeroLine : ByteArray := txB sZ 16
theorem zeroLine_list : (zeroLine.toList == [65, 61, 48, 48, 32, 88, 61, 48, 48, 32, 89, 61, 48, 48, 32, 83, 61, 48, 48, 32, 80, 61, 46, 46, 46, 46, 46, 46, 46, 46, 32, 80, 67, 61, 48, 48, 48, 48, 32, 77, 61, 48, 48, 46, 48, 48, 46, 48, 48, 46, 48, 48, 46, 48, 48, 46, 48, 48, 46, 48, 48, 46, 48, 48, 32, 76, 61, 48, 48, 32, 115, 108, 111, 119]) = true := by decide +kernel
theorem q25_text {w : World} (h : Tabs w) : Calls Tryd.prog 13 #[.agg (stA sZ)] w fun e w' => e = .returned (.string zeroLine) ∧ Below w.heap.size w w' := stext_any sZ stOk_zero h.at_ h.ft
theorem q25_read {w : World} (h : Tabs w) : Calls Tryd.prog 14 #[.string zeroLine] w fun e w' => e = .returned (.tuple #[.agg (stA sZ), .int .i64 0]) ∧ Below w.heap.size w w' := by
  have := sread_any zeroLine (by unfold zeroLine; have := txB_size sZ 16; unfold maxLen; omega) h.at_ h.ft
  obtain ⟨a, b⟩ := rd_yes sZ stOk_zero
  rw [show rdE zeroLine = 0 from b, show stA (rdR zeroLine) = stA sZ from a] at this
  exact this
theorem q25_set {w : World} (h : Tabs w) : Calls Tryd.prog 22 #[.agg (stA sZ), .string ⟨#[80, 67]⟩, .int .u16 57344] w fun e w' => e = .returned (.tuple #[.agg (stA sP), .int .i64 0]) ∧ Below w.heap.size w w' := by
  refine (sset_any sZ stOk_zero h.nt (nmS 5) 57344 (by decide) (by decide)).mono fun e w' hh => ?_
  obtain ⟨⟨x, c, rfl, hp⟩, hb⟩ := hh
  refine ⟨?_, hb⟩
  rcases hp with ⟨k, hk, hs, h1⟩ | ⟨hn, _⟩
  · obtain rfl := nmS_inj (by decide) hk hs
    rcases h1 with ⟨_, rfl, rfl⟩ | ⟨h2, _⟩
    · rfl
    · exact absurd h2 (by decide)
  · exact absurd rfl (hn 5 (by decide))
theorem q25_get {w : World} (h : Tabs w) : Calls Tryd.prog 21 #[.agg (stA sP), .string ⟨#[80, 67]⟩] w fun e w' => e = .returned (.tuple #[.int .u16 57344, .bool true]) ∧ Below w.heap.size w w' := by
  refine (sget_any sP sP_ok h.nt (nmS 5)).mono fun e w' hh => ?_
  obtain ⟨⟨x, c, rfl, hp⟩, hb⟩ := hh
  refine ⟨?_, hb⟩
  rcases hp with ⟨k, hk, hs, rfl, rfl⟩ | ⟨hn, _⟩
  · obtain rfl := nmS_inj (by decide) hk hs
    rfl
  · exact absurd rfl (hn 5 (by decide))
theorem q25_bytes (w : World) : Calls Tryd.prog 10 #[.agg (stA sP)] w fun e w' => (∃ g cap, e = .returned (.slice (some ⟨g, 0, none⟩) 17 cap) ∧ w'.cell? ⟨g, 6, none⟩ = some (.int .u8 224)) ∧ Below w.heap.size w w' := by
  refine (sbytes_any sP sP_ok w).mono fun e w' hh => ?_
  obtain ⟨⟨v, rfl, own⟩, hb⟩ := hh
  obtain ⟨g, cap, cur, rfl, _, hc, _, _, hx⟩ := own_blk (n := 16) own
  refine ⟨⟨g, cap, rfl, ?_⟩, hb⟩
  rw [hc.cell, hx 6 (by decide), intsOf_at _ _ _ _ (by decide)]
  rfl
theorem q25_other {w : World} (h : Tabs w) : Calls Tryd.prog 20 #[.agg (stA sZ), .agg (stA sP)] w fun e w' => (∃ g cap, e = .returned (.slice (some ⟨g, 0, none⟩) 1 cap) ∧ w'.cell? ⟨g, 0, none⟩ = some (.string ⟨#[80, 67]⟩)) ∧ Below w.heap.size w w' := by
  refine (sother_any sZ sP stOk_zero sP_ok h.nt).mono fun e w' hh => ?_
  obtain ⟨⟨v, rfl, own⟩, hb⟩ := hh
  rw [show otl sZ sP 16 = [.string ⟨#[80, 67]⟩] from rfl] at own
  obtain ⟨g, cap, cur, rfl, _, hc, _, _, hx⟩ := own_blk (n := 0) own
  refine ⟨⟨g, cap, rfl, ?_⟩, hb⟩
  rw [hc.cell, hx 0 (by decide)]
  rfl
theorem q25_names {w : World} (h : Tabs w) : Calls Tryd.prog 19 #[] w fun e w' => (∃ g, e = .returned (.slice (some ⟨g, 0, none⟩) 16 16)) ∧ Below w.heap.size w w' := (snames_any h.nt).mono fun e w' ⟨a, _, c⟩ => ⟨⟨_, a⟩, c⟩
theorem h8_st (r : Nat → Int) : (Tryd.prog.info? 25).map (·.size) = some (stA r).size := by rw [stA_size]; exact size_state
set_option maxHeartbeats 16000000 in
theorem live25 {w : World} (hT : Tabs w) : Calls Tryd.prog 7 #[] w fun e w' => e = .returned (.bool true) ∧ Below w.heap.size w w' := by
  have HT0 := Lib.hid hT
  have HB0 := Lib.hid (Below.refl w.heap.size w)
  have z1 := stA_size sZ
  have z2 := stA_size sP
  clear hT
  go_enter Tryd.func7, Tryd.ntmps7
  go_wp2_with fail
  refine (q25_text HT0.out).mono ?_
  rintro e w1 ⟨rfl, b⟩
  have HT1 := Lib.hid (HT0.out.below b)
  have HB1 := Lib.hid (HB0.out.trans (b.mono HB0.out.size))
  clear b
  go_wp2_with fail
  refine (q25_read HT1.out).mono ?_
  rintro e w2 ⟨rfl, b⟩
  have HT2 := Lib.hid (HT1.out.below b)
  have HB2 := Lib.hid (HB1.out.trans (b.mono HB1.out.size))
  clear b
  have hsn := state_new sZ w2
  have K3 := Lib.hid (Blk.new w2 25 (stA sZ))
  have HB3 := Lib.hid (HB2.out.alloc HB2.out.size (.cells (stA sZ) 25))
  have HT3 := Lib.hid (HT2.out.below ((Below.refl _ w2).alloc (Nat.le_refl _) (.cells (stA sZ) 25)))
  go_upto_region 3 with fail
  clear hsn
  generalize World.alloc w2 _ = w3 at *
  generalize w2.heap.size = g at *
  have k3 := K3.out
  go_wp2_with (refine wpList_load_row rfl 25 (.tmp 2) rfl g (by rfl) 25 (stA sZ) (0, 0) _ k3 Tryd.underlying25 rfl (h8_st sZ) ?_)
  refine (q25_set HT3.out).mono ?_
  rintro e w4 ⟨rfl, b⟩
  have HT4 := Lib.hid (HT3.out.below b)
  have HB4 := Lib.hid (HB3.out.trans (b.mono HB3.out.size))
  have K4 := Lib.hid (K3.out.below b K3.out.lt)
  clear b k3
  have hsn := state_new sP w4
  have G5 := Lib.hid (Blk.new w4 25 (stA sP))
  have K5 := Lib.hid (K4.out.alloc (.cells (stA sP) 25))
  have HB5 := Lib.hid (HB4.out.alloc HB4.out.size (.cells (stA sP) 25))
  have HT5 := Lib.hid (HT4.out.below ((Below.refl _ w4).alloc (Nat.le_refl _) (.cells (stA sP) 25)))
  have hne : g ≠ w4.heap.size := by have := K4.out.lt; omega
  have HNE := Lib.hid hne
  clear hne
  go_upto_region 4 with fail
  clear hsn
  generalize World.alloc w4 _ = w5 at *
  generalize w4.heap.size = g2 at *
  have k5 := G5.out
  go_wp2_with (refine wpList_load_row rfl 25 (.tmp 4) rfl g2 (by rfl) 25 (stA sP) (0, 0) _ k5 Tryd.underlying25 rfl (h8_st sP) ?_)
  refine (q25_get HT5.out).mono ?_
  rintro e w6 ⟨rfl, b⟩
  have HT6 := Lib.hid (HT5.out.below b)
  have HB6 := Lib.hid (HB5.out.trans (b.mono HB5.out.size))
  have K6 := Lib.hid (K5.out.below b K5.out.lt)
  have G6 := Lib.hid (G5.out.below b G5.out.lt)
  clear b k5
  have k6 := G6.out
  go_wp2_with (refine wpList_load_row rfl 25 (.tmp 4) rfl g2 (by rfl) 25 (stA sP) (0, 0) _ k6 Tryd.underlying25 rfl (h8_st sP) ?_)
  refine (q25_bytes _).mono ?_
  rintro e w7 ⟨⟨gb, cb, rfl, hcb⟩, b⟩
  have HT7 := Lib.hid (HT6.out.below b)
  have HB7 := Lib.hid (HB6.out.trans (b.mono HB6.out.size))
  have K7 := Lib.hid (K6.out.below b K6.out.lt)
  have G7 := Lib.hid (G6.out.below b G6.out.lt)
  clear b k6
  have HCB := Lib.hid hcb
  clear hcb
  have k7 := K7.out
  have g7 := G7.out
  go_wp2_with (first | (refine wpList_load_row rfl 25 (.tmp 2) rfl g (by rfl) 25 (stA sZ) (0, 0) _ k7 Tryd.underlying25 rfl (h8_st sZ) ?_) | (refine wpList_load_row rfl 25 (.tmp 4) rfl g2 (by rfl) 25 (stA sP) (0, 0) _ g7 Tryd.underlying25 rfl (h8_st sP) ?_))
  refine (q25_other HT7.out).mono ?_
  rintro e w8 ⟨⟨go, co, rfl, hco⟩, b⟩
  have HT8 := Lib.hid (HT7.out.below b)
  have HB8 := Lib.hid (HB7.out.trans (b.mono HB7.out.size))
  have K8 := Lib.hid (K7.out.below b K7.out.lt)
  have G8 := Lib.hid (G7.out.below b G7.out.lt)
  have hcb : w8.cell? ⟨gb, 6, none⟩ = some (.int .u8 224) := (b.cell (World.block_lt_of_cell? _ _ HCB.out)).trans HCB.out
  clear b k7 g7
  have k8 : Blk w8 g 25 #[.int .u8 0, .int .u8 0, .int .u8 0, .int .u8 0, .int .u8 0, .int .u16 0, .int .u8 0, .int .u8 0, .int .u8 0, .int .u8 0, .int .u8 0, .int .u8 0, .int .u8 0, .int .u8 0, .int .u8 0, .bool false] := K8.out
  have hpg : ∀ W : World, (Op.equalIn 9999 23 (.agg #[.int .u8 0, .int .u8 0, .int .u8 0, .int .u8 0, .int .u8 0, .int .u8 0, .int .u8 0, .int .u8 0]) (.agg #[.int .u8 0, .int .u8 0, .int .u8 0, .int .u8 0, .int .u8 0, .int .u8 0, .int .u8 0, .int .u8 0])).run Tryd.prog W = .ok true W := st_pages sZ
  have c5 : w8.cell? ⟨g2, 5, none⟩ = some (.int .u16 57344) := G8.out.cell 5
  have hzl := zeroLine_list
  go_wp2_with (first | (refine wpList_load_row_want (by kernel_rfl) 25 (.tmp 2) rfl g (by rfl) 25 #[.int .u8 0, .int .u8 0, .int .u8 0, .int .u8 0, .int .u8 0, .int .u16 0, .int .u8 0, .int .u8 0, .int .u8 0, .int .u8 0, .int .u8 0, .int .u8 0, .int .u8 0, .int .u8 0, .int .u8 0, .bool false] (0, 0) _ k8 Tryd.underlying25 rfl size_state ?_) | (go_at_call 19; refine (q25_names HT8.out).mono ?_))
  rintro e w9 ⟨⟨gn, rfl⟩, b⟩
  have HB9 := Lib.hid (HB8.out.trans (b.mono HB8.out.size))
  clear b
  go_wp2_with fail
  go_ret
  exact ⟨rfl, HB9.out⟩
end Go.Proofs.YtnnfnjbfjgjgnaaDoor
