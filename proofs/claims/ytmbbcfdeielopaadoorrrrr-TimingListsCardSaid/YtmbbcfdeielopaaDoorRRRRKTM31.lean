/-
  Texts of these proofs, one behind the other: Tm11.
-/
import Derived.Test.YtmbbcfdeielopaaDoorRRRRKTM30
namespace Go.Proofs.YtmbbcfdeielopaaDoorRRRR
open Go.RowKit
set_option linter.unusedVariables false
set_option linter.unusedSimpArgs false
set_option maxRecDepth 100000
set_option maxHeartbeats 8000000
/-- A row of the call's own that holds the kinds of letters. -/
def OwnK (w : World) (v : Value) (l : List UInt8) : Prop := ∃ A cap, v = .slice A l.length cap ∧ IRow w .u8 A l.length (fun i => (kdL l).getD i 0)
theorem kdL_len (l : List UInt8) : (kdL l).length = l.length := by simp [kdL]
theorem ownK_of {w : World} {base : Nat} {v : Value} {l : List UInt8} (h : w.ownsRow base 5 1 v l.length (kdV l)) (hok : ∀ c ∈ l, okL c = true) : OwnK w v l := by
  have := row_ints (xs := kdL l) (by rw [kdL_len]; exact h) (kdL_bd hok)
  rw [kdL_len] at this
  exact this
theorem OwnK.keep {w w' : World} {v : Value} {l : List UInt8} (h : OwnK w v l) (hb : Below w.heap.size w w') : OwnK w' v l := by
  obtain ⟨A, cap, h1, h2⟩ := h
  exact ⟨A, cap, h1, h2.keep hb⟩
theorem chr_knd {c : UInt8} (h : okL c = true) : chrT (knd c : Int) = (c.toNat : Int) := by
  rcases okL_mem h with rfl | rfl | rfl | rfl | rfl | rfl | rfl | rfl <;> decide
theorem txt_knd {l : List UInt8} (h : ∀ c ∈ l, okL c = true) : strOfNums (txtN (fun i => (kdL l).getD i 0) l.length) = mkS l := by
  unfold strOfNums mkS txtN
  congr 2
  apply List.ext_getElem
  · simp
  · intro i h1 h2
    have hi : i < l.length := h2
    have hc : okL l[i] = true := h _ (List.getElem_mem hi)
    have he : (kdL l).getD i 0 = (knd l[i] : Int) := by simp [kdL, List.getD, hi]
    simp only [List.map_map, List.getElem_map, List.getElem_range, Function.comp, he, chr_knd hc]
    simp
theorem ttext_own {w : World} {v : Value} {l : List UInt8} (h : OwnK w v l) (hok : ∀ c ∈ l, okL c = true) (hl : l.length ≤ 1000000) : Calls Tryd.prog 15 #[v] w fun e w' => e = .returned (.string (mkS l)) ∧ Below w.heap.size w w' := by
  obtain ⟨A, cap, rfl, R⟩ := h
  have := ttext_any A l.length cap _ hl w R
  rw [txt_knd hok] at this
  exact this
def LK (w : World) (l : List UInt8) (e : Ending) (w' : World) : Prop := ∃ v, e = .returned v ∧ OwnK w' v l ∧ Below w.heap.size w w'
theorem q29_a5 (w : World) : Calls Tryd.prog 7 #[.int .u8 165, .agg #[.bool false, .bool false, .bool false, .int .i64 0]] w (LK w [70, 79, 68, 76]) :=
  (tlist_any 165 (by decide) false false false 0 w).mono fun e w' h => by
    obtain ⟨v, rfl, own, hb⟩ := h
    rw [show tmL 165 false false false 0 = [70, 79, 68, 76] by decide +kernel] at own
    exact ⟨v, rfl, ownK_of own (by decide), hb⟩
theorem q29_69 (w : World) : Calls Tryd.prog 7 #[.int .u8 105, .agg #[.bool true, .bool true, .bool false, .int .i64 0]] w (LK w [70, 79, 76, 68, 83, 68]) :=
  (tlist_any 105 (by decide) true true false 0 w).mono fun e w' h => by
    obtain ⟨v, rfl, own, hb⟩ := h
    rw [show tmL 105 true true false 0 = [70, 79, 76, 68, 83, 68] by decide +kernel] at own
    exact ⟨v, rfl, ownK_of own (by decide), hb⟩
theorem q29_nmi (w : World) : Calls Tryd.prog 13 #[.int .u8 2] w (LK w [68, 68, 80, 80, 80, 86, 86, 68]) :=
  (tentry_any 2 w).mono fun e w' h => by
    obtain ⟨v, rfl, own, hb⟩ := h
    exact ⟨v, rfl, ownK_of own (by decide), hb⟩
theorem q29_ea (w : World) : Calls Tryd.prog 9 #[.int .u8 234, .agg #[.bool false, .bool false, .bool false, .int .i64 0]] w fun e w' => e = .returned (.int .i64 2) ∧ Below w.heap.size w w' :=
  asV (tcount_any 234 (by decide) false false false 0 w) (by rw [show (tmL 234 false false false 0).length = 2 by decide +kernel]; rfl)
theorem q29_nil (w : World) : Calls Tryd.prog 18 #[.slice none 0 0] w fun e w' => e = .returned (.int .i64 8) ∧ Below w.heap.size w w' :=
  asV (tbehind_any none 0 0 (fun _ => 0) (by omega) w (fun i hi => absurd hi (by omega))) (by rfl)
theorem q29_nine {w : World} {g : Nat} (h : Blk w g 5 #[.int .u8 9]) : Calls Tryd.prog 15 #[.slice (some ⟨g, 0, none⟩) 1 1] w fun e w' => e = .returned (.string ⟨#[63]⟩) ∧ Below w.heap.size w w' :=
  asV (ttext_any (some ⟨g, 0, none⟩) 1 1 (fun _ => 9) (by omega) w (fun i hi => by
    obtain rfl : i = 0 := by omega
    exact ⟨_, rfl, h.lt, h.cell 0, by decide⟩)) (by kernel_rfl)
theorem live29_any (w : World) : Calls Tryd.prog 6 #[] w fun e w' => e = .returned (.bool true) ∧ Below w.heap.size w w' := by
  go_enter Tryd.func6, Tryd.ntmps6
  go_wp2_with fail
  refine (q29_a5 _).mono ?_
  rintro e w1 ⟨v, rfl, ho, hb⟩
  have HB1 := Lib.hid hb
  have HO := Lib.hid ho
  clear hb ho
  go_wp2_with fail
  refine (ttext_own HO.out (by decide) (by decide)).mono ?_
  rintro e w2 ⟨rfl, hb⟩
  have HB2 := Lib.hid (HB1.out.trans (hb.mono HB1.out.size))
  clear hb HB1 HO
  rw [show mkS [70, 79, 68, 76] = ⟨#[70, 79, 68, 76]⟩ from rfl]
  go_wp2_with fail
  refine (q29_69 _).mono ?_
  rintro e w3 ⟨v, rfl, ho, hb⟩
  have HB3 := Lib.hid (HB2.out.trans (hb.mono HB2.out.size))
  have HO := Lib.hid ho
  clear hb ho HB2
  go_wp2_with fail
  refine (ttext_own HO.out (by decide) (by decide)).mono ?_
  rintro e w4 ⟨rfl, hb⟩
  have HB4 := Lib.hid (HB3.out.trans (hb.mono HB3.out.size))
  clear hb HB3 HO
  rw [show mkS [70, 79, 76, 68, 83, 68] = ⟨#[70, 79, 76, 68, 83, 68]⟩ from rfl]
  go_wp2_with fail
  refine (q29_nmi _).mono ?_
  rintro e w5 ⟨v, rfl, ho, hb⟩
  have HB5 := Lib.hid (HB4.out.trans (hb.mono HB4.out.size))
  have HO := Lib.hid ho
  clear hb ho HB4
  go_wp2_with fail
  refine (ttext_own HO.out (by decide) (by decide)).mono ?_
  rintro e w6 ⟨rfl, hb⟩
  have HB6 := Lib.hid (HB5.out.trans (hb.mono HB5.out.size))
  clear hb HB5 HO
  rw [show mkS [68, 68, 80, 80, 80, 86, 86, 68] = ⟨#[68, 68, 80, 80, 80, 86, 86, 68]⟩ from rfl]
  go_wp2_with fail
  refine (tlongest_any _).mono ?_
  rintro e w' ⟨rfl, rfl⟩
  go_wp2_with fail
  refine (q29_ea _).mono ?_
  rintro e w7 ⟨rfl, hb⟩
  have HB7 := Lib.hid (HB6.out.trans (hb.mono HB6.out.size))
  clear hb HB6
  go_wp2_with fail
  refine (twrites_any 5 _).mono ?_
  rintro e w' ⟨rfl, rfl⟩
  rw [show ((5 : Int) == 4 || (5 : Int) == 5) = true from rfl]
  go_wp2_with fail
  refine (q29_nil _).mono ?_
  rintro e w8 ⟨rfl, hb⟩
  have HB8 := Lib.hid (HB7.out.trans (hb.mono HB7.out.size))
  clear hb HB7
  go_wp2_with fail
  refine (q29_nine (Blk.new _ _ _)).mono ?_
  rintro e w9 ⟨rfl, hb⟩
  have z8 := HB8.out.size
  have HB9 := Lib.hid ((HB8.out.alloc z8 _).trans (hb.mono (by simp; omega)))
  clear hb HB8
  go_wp2_with fail
  go_ret
  exact ⟨rfl, HB9.out⟩
end Go.Proofs.YtmbbcfdeielopaaDoorRRRR
