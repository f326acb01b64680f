/-
  Texts of these proofs, one behind the other: Scr40, Scr41.
-/
import Derived.Test.YtnhnphifhkkboaaDoorKSW48
import Derived.Test.YtnhnphifhkkboaaDoorKSW41
namespace Go.Proofs.YtnhnphifhkkboaaDoor
open Go.RowKit Go.Shelf
set_option linter.unusedVariables false
set_option linter.unusedSimpArgs false
set_option maxRecDepth 100000
def lvT1 : ByteArray := ⟨#[35, 32, 97, 32, 114, 117, 110, 10, 112, 97, 103, 101, 115, 32, 49, 10, 114, 111, 109, 32, 48, 48, 49, 70, 70, 69, 32, 48, 48, 32, 69, 48, 10, 118, 100, 99, 32, 48, 53, 10, 117, 112, 32, 55, 32, 105, 114, 113, 49, 10, 98, 117, 100, 103, 101, 116, 32, 49, 48, 48, 10]⟩
def lvT2 : ByteArray := ⟨#[112, 97, 103, 101, 115, 32, 49, 10, 98, 117, 100, 103, 101, 116, 32, 49, 10, 112, 97, 103, 101, 115, 32, 50, 10]⟩
def lvTd : Td := ⟨some 1, some 100, [(8190, [0, 224])], [5], [], [], [⟨7, 2, true⟩]⟩
theorem lv_fold : foldL lvT1 (rowsT lvT1) td0 = ((0, 0), lvTd) := by kernel_rfl
theorem lv_e1 : parseE lvT1 = (0, 0) := by
  unfold parseE
  rw [lv_fold, if_neg (by decide), if_neg (by simp)]
  kernel_rfl
theorem lv_e2 : parseE lvT2 = (11, 3) := by
  unfold parseE
  rw [if_neg (by decide)]
  kernel_rfl
def lvZ : Nat → Int := laid (pL lvTd.rom) 1
def lvP : Ps := ⟨8192, lvZ, [5], [], [], [⟨7, 2, true⟩], 100⟩
theorem lv_p1 : parseS lvT1 = lvP := by
  unfold parseS
  rw [lv_fold]
  rfl
theorem lv_z (i : Nat) : lvZ i = if i = 8191 then 224 else 0 := by
  show (if (8190 : Int) ≤ i ∧ (i : Int) < 8190 + ((2 : Nat) : Int) then zL [0, 224] ((i : Int) - 8190).toNat else 0) = _
  by_cases h : i = 8190
  · subst h; rw [if_pos (by decide), if_neg (by decide)]; rfl
  · by_cases h2 : i = 8191
    · subst h2; rw [if_pos (by decide), if_pos rfl]; rfl
    · rw [if_neg (by omega), if_neg h2]
theorem lv_runs : runs lvZ 8192 = [(8191, 1)] := by
  have h0 : runs lvZ 8191 = [] := by rw [runs_zero lvZ 0 8191 (by omega) (fun j _ hj => by rw [lv_z, if_neg (by omega)])]; rfl
  rw [show 8192 = 8191 + 1 from rfl, runs_succ, h0]
  rw [if_neg (by rw [lv_z, if_pos rfl]; decide), if_neg (by rw [lv_z, if_neg (by decide)]; simp)]
  rfl
theorem lv_chk : chkP lvP = (0, 0) := by kernel_rfl
theorem lv_itoa : Lib.itoa 1 = [49] ∧ Lib.itoa 7 = [55] ∧ Lib.itoa 100 = [49, 48, 48] := by
  refine ⟨?_, ?_, ?_⟩ <;> simp [Lib.itoa, Lib.decDigits]
def lvTx : ByteArray := ⟨#[112, 97, 103, 101, 115, 32, 49, 10, 114, 111, 109, 32, 48, 48, 49, 70, 70, 70, 32, 69, 48, 10, 118, 100, 99, 32, 48, 53, 10, 117, 112, 32, 55, 32, 105, 114, 113, 49, 10, 98, 117, 100, 103, 101, 116, 32, 49, 48, 48, 10]⟩
theorem itoB_lit : itoB 1 = ⟨#[49]⟩ ∧ itoB 7 = ⟨#[55]⟩ ∧ itoB 100 = ⟨#[49, 48, 48]⟩ := by
  obtain ⟨h1, h2, h3⟩ := lv_itoa
  unfold itoB
  rw [h1, h2, h3]
  exact ⟨rfl, rfl, rfl⟩
theorem lv_lines : textLs lvP = [lineB [pgK, ⟨#[49]⟩], lineB [romW, hx6 8191, joinB [hx2 224]], lineB [vdcW, joinB [hx2 5]], lineB [upW true, ⟨#[55]⟩, nmN 2], lineB [bgK, ⟨#[49, 48, 48]⟩]] := by
  obtain ⟨h1, h2, h3⟩ := itoB_lit
  have hi : imgL lvZ 8192 = [lineB [romW, hx6 8191, joinB [hx2 224]]] := by
    unfold imgL
    rw [lv_runs]
    show [lineB [romW, hx6 8191, joinB [hx2 (lvZ 8191)]]] = _
    rw [lv_z, if_pos rfl]
  have e1 : textLs lvP = [lineB [pgK, itoB 1]] ++ imgL lvZ 8192 ++ [lineB [vdcW, joinB [hx2 5]]] ++ [] ++ [] ++ [lineB [upW true, itoB 7, nmN 2]] ++ [lineB [bgK, itoB 100]] := rfl
  rw [e1, h1, h2, h3, hi]
  rfl
theorem lv_text : textB lvP = lvTx := by
  unfold textB
  rw [lv_lines]
  kernel_rfl
theorem lv_tf : textF lvP = (0, 0) := by
  unfold textF
  rw [lv_chk, if_neg (by simp), lv_text, if_neg (by decide)]
theorem lv_ts : textS lvP = lvTx := by
  unfold textS
  rw [lv_tf, if_neg (by simp), lv_text]
theorem lv_unl : unL 6 lvP.edges = [] := by kernel_rfl
theorem lv_line : (lineW ⟨#[32, 97, 32, 32, 98, 32]⟩).length = 2 := by kernel_rfl
theorem lv_num : numP ⟨#[49, 50]⟩ = (12, 0) := by kernel_rfl
end Go.Proofs.YtnhnphifhkkboaaDoor
namespace Go.Proofs.YtnhnphifhkkboaaDoor
open Go.RowKit Go.Shelf
set_option linter.unusedVariables false
set_option linter.unusedSimpArgs false
set_option maxRecDepth 100000
/-- All that is laid when the call begins. -/
structure Tabs (w : World) : Prop where
  nm : NmT w
  p10 : pow10T w
theorem Tabs.below {w w' : World} (h : Tabs w) (hb : Below w.heap.size w w') : Tabs w' := ⟨h.nm.below hb h.nm.1, pow10_below h.p10 hb⟩
abbrev lvC (A : Option Addr) (ca : Nat) (V : Option Addr) (cv : Nat) (C : Option Addr) (cc : Nat) (R : Option Addr) (cr : Nat) (E : Option Addr) (ce : Nat) : Array Value := #[.slice A 8192 ca, .slice V 1 cv, .slice C 0 cc, .slice R 0 cr, .slice E 1 ce, .int .i64 100]
theorem lv_parse {w : World} (hN : NmT w) : Calls Tryd.prog 16 #[.string ⟨#[35, 32, 97, 32, 114, 117, 110, 10, 112, 97, 103, 101, 115, 32, 49, 10, 114, 111, 109, 32, 48, 48, 49, 70, 70, 69, 32, 48, 48, 32, 69, 48, 10, 118, 100, 99, 32, 48, 53, 10, 117, 112, 32, 55, 32, 105, 114, 113, 49, 10, 98, 117, 100, 103, 101, 116, 32, 49, 48, 48, 10]⟩] w fun e w' =>
    Below w.heap.size w w' ∧ ∃ A ca V cv C cc R cr E ce, e = .returned (.tuple #[.agg #[.slice A 8192 ca, .slice V 1 cv, .slice C 0 cc, .slice R 0 cr, .slice E 1 ce, .int .i64 100], .agg #[.int .i64 0, .int .i64 0]]) ∧ ScrV w' ⟨A, 8192, ca, V, 1, cv, C, 0, cc, R, 0, cr, E, 1, ce, 100⟩ lvP := by
  refine (scparse_any lvT1 w hN).mono fun e w' h => ?_
  rw [lv_e1, lv_p1] at h
  obtain ⟨hb, h | ⟨_, s, rfl, hs, _⟩⟩ := h
  · exact absurd rfl h.1
  · obtain ⟨A, n, ca, V, a, cv, C, b, cc, R, c, cr, E, m, ce, bud⟩ := s
    obtain rfl : n = 8192 := hs.rom.1
    obtain rfl : a = 1 := hs.vdc.1
    obtain rfl : b = 0 := hs.vce.1
    obtain rfl : c = 0 := hs.port.1
    obtain rfl : m = 1 := hs.edges.1
    obtain rfl : bud = 100 := hs.bud
    exact ⟨hb, A, ca, V, cv, C, cc, R, cr, E, ce, rfl, hs⟩
theorem lv_parse2 {w : World} (hN : NmT w) : Calls Tryd.prog 16 #[.string ⟨#[112, 97, 103, 101, 115, 32, 49, 10, 98, 117, 100, 103, 101, 116, 32, 49, 10, 112, 97, 103, 101, 115, 32, 50, 10]⟩] w fun e w' =>
    Below w.heap.size w w' ∧ e = .returned (.tuple #[.agg #[.slice none 0 0, .slice none 0 0, .slice none 0 0, .slice none 0 0, .slice none 0 0, .int .i64 0], .agg #[.int .i64 11, .int .i64 3]]) := by
  refine (scparse_any lvT2 w hN).mono fun e w' h => ?_
  rw [lv_e2] at h
  obtain ⟨hb, h | ⟨h, _⟩⟩ := h
  · exact ⟨hb, h.2⟩
  · simp at h
theorem lv_ok (A : Option Addr) (ca : Nat) (V : Option Addr) (cv : Nat) (C : Option Addr) (cc : Nat) (R : Option Addr) (cr : Nat) (E : Option Addr) (ce : Nat) : SvOk ⟨A, 8192, ca, V, 1, cv, C, 0, cc, R, 0, cr, E, 1, ce, 100⟩ := ⟨by dsimp only; omega, by dsimp only; omega, by dsimp only; omega, by dsimp only; omega, by dsimp only; omega, by dsimp only; omega, by dsimp only; omega⟩
theorem lv_text_any {w : World} (hT : Tabs w) {A : Option Addr} {ca : Nat} {V : Option Addr} {cv : Nat} {C : Option Addr} {cc : Nat} {R : Option Addr} {cr : Nat} {E : Option Addr} {ce : Nat} (h : ScrV w ⟨A, 8192, ca, V, 1, cv, C, 0, cc, R, 0, cr, E, 1, ce, 100⟩ lvP) :
    Calls Tryd.prog 18 #[.agg #[.slice A 8192 ca, .slice V 1 cv, .slice C 0 cc, .slice R 0 cr, .slice E 1 ce, .int .i64 100]] w fun e w' => e = .returned (.tuple #[.string lvTx, .agg #[.int .i64 0, .int .i64 0]]) ∧ Below w.heap.size w w' := by
  have := sctext_any _ _ h (lv_ok A ca V cv C cc R cr E ce) hT.nm hT.p10 (fun k hk => by
    have : k = 0 := by have hk' : k < 1 := hk; omega
    subst this; decide)
  rw [lv_ts, lv_tf] at this
  exact this
theorem lv_check_any {w : World} {A : Option Addr} {ca : Nat} {V : Option Addr} {cv : Nat} {C : Option Addr} {cc : Nat} {R : Option Addr} {cr : Nat} {E : Option Addr} {ce : Nat} (h : ScrV w ⟨A, 8192, ca, V, 1, cv, C, 0, cc, R, 0, cr, E, 1, ce, 100⟩ lvP) :
    Calls Tryd.prog 13 #[.agg #[.slice A 8192 ca, .slice V 1 cv, .slice C 0 cc, .slice R 0 cr, .slice E 1 ce, .int .i64 100]] w fun e w' => e = .returned (.agg #[.int .i64 0, .int .i64 0]) ∧ Below w.heap.size w w' := by
  have := sccheck_any _ _ (lv_ok A ca V cv C cc R cr E ce) h.edges.2.2.2.1
  have e : chkS 8192 1 0 0 (eL lvP.edges) 1 100 = (0, 0) := lv_chk
  dsimp only at this
  rw [e] at this
  exact this
theorem lv_until_any {w : World} {A : Option Addr} {ca : Nat} {V : Option Addr} {cv : Nat} {C : Option Addr} {cc : Nat} {R : Option Addr} {cr : Nat} {E : Option Addr} {ce : Nat} (h : ScrV w ⟨A, 8192, ca, V, 1, cv, C, 0, cc, R, 0, cr, E, 1, ce, 100⟩ lvP) :
    Calls Tryd.prog 12 #[.agg #[.slice A 8192 ca, .slice V 1 cv, .slice C 0 cc, .slice R 0 cr, .slice E 1 ce, .int .i64 100], .int .i64 6] w fun e w' => Below w.heap.size w w' ∧ ∃ c0 c1 c2 c3 E' ce' c5, e = .returned (.agg #[c0, c1, c2, c3, .slice E' 0 ce', c5]) := by
  refine (scuntil_any _ _ h 6 (by dsimp only; omega) (by dsimp only; omega) (by dsimp only; omega) (by dsimp only; omega) (by dsimp only; omega)).mono fun e w' hh => ?_
  obtain ⟨hb, s, rfl, hs⟩ := hh
  have hm := hs.edges.1
  have hu : unL 6 lvP.edges = [] := lv_unl
  dsimp only at hm
  rw [hu] at hm
  obtain ⟨A', n', ca', V', a', cv', C', b', cc', R', c', cr', E', m', ce', bud'⟩ := s
  obtain rfl : m' = 0 := hm
  exact ⟨hb, _, _, _, _, E', ce', _, rfl⟩
theorem lv_line_any (w : World) : Calls Tryd.prog 20 #[.string ⟨#[32, 97, 32, 32, 98, 32]⟩] w fun e w' => Below w.heap.size w w' ∧ ∃ A c, e = .returned (.slice A 2 c) := by
  refine (scline_any ⟨#[32, 97, 32, 32, 98, 32]⟩ (by decide) w).mono fun e w' h => ?_
  obtain ⟨A, c, rfl, _, _, _, _, _, _, hb⟩ := h
  rw [lv_line]
  exact ⟨hb, A, c, rfl⟩
theorem lv_number_any (w : World) : Calls Tryd.prog 22 #[.string ⟨#[49, 50]⟩] w fun e w' => e = .returned (.tuple #[.int .i64 12, .int .i64 0]) ∧ w' = w := by
  have := scnumber_any ⟨#[49, 50]⟩ w (by unfold maxLen; decide)
  rw [lv_num] at this
  exact this
set_option maxHeartbeats 32000000 in
theorem live33_any {w : World} (hT : Tabs w) : Calls Tryd.prog 11 #[] w fun e w' => e = .returned (.bool true) ∧ Below w.heap.size w w' := by
  have HT := Lib.hid hT
  clear hT
  go_enter Tryd.func11, Tryd.ntmps11
  go_upto_region 2 with (go_at_call 16; refine (lv_parse HT.out.nm).mono ?_; rintro e w1 ⟨hb1, A, ca, V, cv, C, cc, R, cr, E, ce, rfl, hs1⟩)
  have bS : Blk ((w1.alloc (.cells #[.slice A 8192 ca, .slice V 1 cv, .slice C 0 cc, .slice R 0 cr, .slice E 1 ce, .int .i64 100] 27)).alloc (.cells #[.int .i64 0, .int .i64 0] 34)) w1.heap.size 27 #[.slice A 8192 ca, .slice V 1 cv, .slice C 0 cc, .slice R 0 cr, .slice E 1 ce, .int .i64 100] := (Blk.new w1 _ _).alloc _
  have bF : Blk ((w1.alloc (.cells #[.slice A 8192 ca, .slice V 1 cv, .slice C 0 cc, .slice R 0 cr, .slice E 1 ce, .int .i64 100] 27)).alloc (.cells #[.int .i64 0, .int .i64 0] 34)) (w1.heap.size + 1) 34 #[.int .i64 0, .int .i64 0] := Blk.new_ (by simp)
  have hB : Below w1.heap.size w1 ((w1.alloc (.cells #[.slice A 8192 ca, .slice V 1 cv, .slice C 0 cc, .slice R 0 cr, .slice E 1 ce, .int .i64 100] 27)).alloc (.cells #[.int .i64 0, .int .i64 0] 34)) := ((Below.refl _ w1).alloc (Nat.le_refl _) _).alloc (by simp) _
  generalize World.alloc (World.alloc w1 _) _ = w2 at *
  have HS2 := Lib.hid (hs1.keep hB)
  have HT2 := Lib.hid (HT.out.below (hb1.trans (hB.mono hb1.size)))
  have HB2 := Lib.hid (hb1.trans (hB.mono hb1.size))
  have BS2 := Lib.hid bS
  have BF2 := Lib.hid bF
  generalize w1.heap.size = g at *
  clear hb1 hs1 bS bF hB HT
  have kk := BS2.out
  go_upto_region 3 with (first | (refine wpList_load_row rfl 27 (.tmp 1) rfl g (by rfl) 27 #[.slice A 8192 ca, .slice V 1 cv, .slice C 0 cc, .slice R 0 cr, .slice E 1 ce, .int .i64 100] (0, 0) _ kk Tryd.underlying27 rfl sizeS ?_) | (go_at_call 18; refine (lv_text_any HT2.out HS2.out).mono ?_; rintro e w3 ⟨rfl, hb3⟩))
  clear kk
  have bS : Blk (w3.alloc (.cells #[.int .i64 0, .int .i64 0] 34)) g 27 #[.slice A 8192 ca, .slice V 1 cv, .slice C 0 cc, .slice R 0 cr, .slice E 1 ce, .int .i64 100] := (BS2.out.below hb3 BS2.out.lt).alloc _
  have bF : Blk (w3.alloc (.cells #[.int .i64 0, .int .i64 0] 34)) (g + 1) 34 #[.int .i64 0, .int .i64 0] := (BF2.out.below hb3 BF2.out.lt).alloc _
  have bG : Blk (w3.alloc (.cells #[.int .i64 0, .int .i64 0] 34)) w3.heap.size 34 #[.int .i64 0, .int .i64 0] := Blk.new _ _ _
  have hB : Below w2.heap.size w2 (w3.alloc (.cells #[.int .i64 0, .int .i64 0] 34)) := hb3.alloc hb3.size _
  generalize World.alloc w3 _ = w4 at *
  have HS4 := Lib.hid (HS2.out.keep hB)
  have HT4 := Lib.hid (HT2.out.below hB)
  have HB4 := Lib.hid (HB2.out.trans (hB.mono HB2.out.size))
  have BS4 := Lib.hid bS
  have BF4 := Lib.hid bF
  have BG4 := Lib.hid bG
  generalize w3.heap.size = g2 at *
  clear hb3 bS bF bG hB HS2 HT2 HB2 BS2 BF2
  go_upto_region 4 with (go_at_call 16; refine (lv_parse2 HT4.out.nm).mono ?_; rintro e w5 ⟨hb5, rfl⟩)
  have hB : Below w4.heap.size w4 ((w5.alloc (.cells #[.slice none 0 0, .slice none 0 0, .slice none 0 0, .slice none 0 0, .slice none 0 0, .int .i64 0] 27)).alloc (.cells #[.int .i64 11, .int .i64 3] 34)) := (hb5.alloc hb5.size _).alloc (by have := hb5.size; simp; omega) _
  have bH : Blk ((w5.alloc (.cells #[.slice none 0 0, .slice none 0 0, .slice none 0 0, .slice none 0 0, .slice none 0 0, .int .i64 0] 27)).alloc (.cells #[.int .i64 11, .int .i64 3] 34)) (w5.heap.size + 1) 34 #[.int .i64 11, .int .i64 3] := Blk.new_ (by simp)
  generalize World.alloc (World.alloc w5 _) _ = w6 at *
  have HS6 := Lib.hid (HS4.out.keep hB)
  have HT6 := Lib.hid (HT4.out.below hB)
  have HB6 := Lib.hid (HB4.out.trans (hB.mono HB4.out.size))
  have BS6 := Lib.hid (BS4.out.below hB BS4.out.lt)
  have BF6 := Lib.hid (BF4.out.below hB BF4.out.lt)
  have BG6 := Lib.hid (BG4.out.below hB BG4.out.lt)
  have BH6 := Lib.hid bH
  generalize w5.heap.size + 1 = g3 at *
  clear hb5 bH hB HS4 HT4 HB4 BS4 BF4 BG4
  go_upto_region 5 with (go_at_call 22; refine (lv_number_any _).mono ?_; rintro e w7 ⟨rfl, rfl⟩)
  obtain ⟨ad, rfl, _, hrc, _⟩ := HS6.out.rom.2.2.2.1 8191 (by dsimp only; omega)
  have hrz : lvP.z 8191 = 224 := lv_z 8191
  rw [hrz] at hrc
  have hrc' : w7.cell? ⟨ad.block, ad.off + 8191, none⟩ = some (.int .u8 224) := hrc
  obtain ⟨ae, rfl, _, e0, e1, e2⟩ := ERow.cells HS6.out.edges.2.2.2.1 0 (by dsimp only; omega)
  have ez : eL lvP.edges 0 = ⟨7, 2, true⟩ := rfl
  rw [ez] at e0 e1 e2
  have haz : ae.add (0 * 3) = ae := rfl
  rw [haz] at e0 e1 e2
  dsimp only at e0 e1 e2
  have HRC := Lib.hid (And.intro hrc (And.intro e0 (And.intro e1 e2)))
  have hzl : (lvTx.toList == [112, 97, 103, 101, 115, 32, 49, 10, 114, 111, 109, 32, 48, 48, 49, 70, 70, 70, 32, 69, 48, 10, 118, 100, 99, 32, 48, 53, 10, 117, 112, 32, 55, 32, 105, 114, 113, 49, 10, 98, 117, 100, 103, 101, 116, 32, 49, 48, 48, 10]) = true := by kernel_rfl
  have f0 : w7.cell? ⟨g + 1, 0, none⟩ = some (.int .i64 0) := BF6.out.cell 0
  have f1 : w7.cell? ⟨g + 1, 1, none⟩ = some (.int .i64 0) := BF6.out.cell 1
  have f2 : w7.cell? ⟨g2, 0, none⟩ = some (.int .i64 0) := BG6.out.cell 0
  have f3 : w7.cell? ⟨g2, 1, none⟩ = some (.int .i64 0) := BG6.out.cell 1
  have f4 : w7.cell? ⟨g3, 0, none⟩ = some (.int .i64 11) := BH6.out.cell 0
  have f5 : w7.cell? ⟨g3, 1, none⟩ = some (.int .i64 3) := BH6.out.cell 1
  have s0 : w7.cell? ⟨g, 0, none⟩ = some (.slice (some ad) 8192 ca) := BS6.out.cell 0
  have s1 : w7.cell? ⟨g, 1, none⟩ = some (.slice V 1 cv) := BS6.out.cell 1
  have s4 : w7.cell? ⟨g, 4, none⟩ = some (.slice (some ae) 1 ce) := BS6.out.cell 4
  have s5 : w7.cell? ⟨g, 5, none⟩ = some (.int .i64 100) := BS6.out.cell 5
  have kk := BS6.out
  go_wp2_with (refine wpList_load_row_want (by kernel_rfl) 27 (.tmp 1) rfl g (by rfl) 27 #[.slice (some ad) 8192 ca, .slice V 1 cv, .slice C 0 cc, .slice R 0 cr, .slice (some ae) 1 ce, .int .i64 100] (0, 0) _ kk Tryd.underlying27 rfl sizeS ?_)
  refine (lv_check_any HS6.out).mono ?_
  rintro e w8 ⟨rfl, hb⟩
  have HS8 := Lib.hid (HS6.out.keep hb)
  have HB8 := Lib.hid (HB6.out.trans (hb.mono HB6.out.size))
  have BS8 := Lib.hid (BS6.out.below hb BS6.out.lt)
  clear hb hrc hrc' e0 e1 e2 f0 f1 f2 f3 f4 f5 s0 s1 s4 s5 kk hzl HS6 HB6 BS6 BF6 BG6 BH6
  go_wp2_with fail
  refine (lv_line_any _).mono ?_
  rintro e w9 ⟨hb, AL, cL, rfl⟩
  have HS9 := Lib.hid (HS8.out.keep hb)
  have HB9 := Lib.hid (HB8.out.trans (hb.mono HB8.out.size))
  have BS9 := Lib.hid (BS8.out.below hb BS8.out.lt)
  clear hb HS8 HB8 BS8
  have kk := BS9.out
  go_wp2_with (refine wpList_load_row_want (by kernel_rfl) 27 (.tmp 1) rfl g (by rfl) 27 #[.slice (some ad) 8192 ca, .slice V 1 cv, .slice C 0 cc, .slice R 0 cr, .slice (some ae) 1 ce, .int .i64 100] (0, 0) _ kk Tryd.underlying27 rfl sizeS ?_)
  refine (lv_until_any HS9.out).mono ?_
  rintro e w10 ⟨hb, c0, c1, c2, c3, E', ce', c5, rfl⟩
  have HB10 := Lib.hid (HB9.out.trans (hb.mono HB9.out.size))
  have hfd : ∀ W : World, (Instr.field 27 (.agg #[c0, c1, c2, c3, .slice E' 0 ce', c5]) 2).run Tryd.prog W = .ok (.slice E' 0 ce') W := fun W => by kernel_rfl
  clear hb kk HS9 HB9 BS9
  go_wp2_with fail
  go_ret
  exact ⟨rfl, HB10.out⟩
end Go.Proofs.YtnhnphifhkkboaaDoor
