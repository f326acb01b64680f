/-
  Texts of these proofs, one behind the other: Rpg3, G23.
-/
import Derived.Test.YtaamfcbpelbboaaDoorKM28
import Derived.Test.YtaamfcbpelbboaaDoorKM19
namespace Go.Proofs.YtaamfcbpelbboaaDoor
open Go.RowKit
set_option linter.unusedVariables false
set_option linter.unusedSimpArgs false
set_option maxRecDepth 100000
section
variable {w w' : World} {r : Nat} {rs ms : Nat → Nat} {s : Sg} {L : List Nat}
theorem rdepth_any (h : RG w r rs ms s) : Calls Tryd.prog 39 #[.pointer (some ⟨r, 0, none⟩)] w fun e w' => e = .returned (.int .i64 s.depth) ∧ Below w.heap.size w w' := by
  unfold Sg.depth
  have hB : Below w.heap.size w (w.alloc (.cells #[.int .i64 0, .int .i64 1, .int .i64 16, .int .i64 256] 57)) := (Below.refl _ _).alloc (Nat.le_refl _) _
  have hb : Blk (w.alloc (.cells #[.int .i64 0, .int .i64 1, .int .i64 16, .int .i64 256] 57)) w.heap.size 57 #[.int .i64 0, .int .i64 1, .int .i64 16, .int .i64 256] := Blk.new w _ _
  obtain ⟨a0, a1⟩ := h.2.2.2.2.2.1
  obtain ⟨d, hd⟩ : ∃ d : Nat, s.de.toNat = d := ⟨_, rfl⟩
  have hd2 : s.de = (d : Int) := by omega
  have c8 := (h.below hB).de8
  rw [hd2] at c8 a0 a1
  rw [hd]
  have hc : (w.alloc (.cells #[.int .i64 0, .int .i64 1, .int .i64 16, .int .i64 256] 57)).cell? ⟨w.heap.size, d % 4, none⟩ = some (.int .i64 (dp (d % 4))) := by
    rw [hb.cell]
    have : d % 4 = 0 ∨ d % 4 = 1 ∨ d % 4 = 2 ∨ d % 4 = 3 := by omega
    rcases this with e | e | e | e <;> rw [e] <;> rfl
  have HB := Lib.hid hB
  clear h hd hd2 hb hB
  go_enter Tryd.func39, Tryd.ntmps39
  go_wp2
  go_ret
  exact ⟨rfl, HB.out⟩
theorem on_ct {x : Cw} (h : x.ok) {o : Bool} (e : x.on = o) : decide (x.ct < 128) = !o := by
  have := (lvl_cases h).1
  rw [e] at this
  rw [this]
  by_cases c : 128 ≤ x.ct
  · rw [decide_eq_true c, decide_eq_false (by omega)]; rfl
  · rw [decide_eq_false c, decide_eq_true (by omega)]; rfl
theorem fin4 {a wb : World} {g : Nat} {c0 c1 c2 c3 : Value} (h : Blk wb g 42 #[c0, c1, c2, c3]) (v : Vc) (hB : Below g a wb) :
    (loadVar 42 ⟨g, 0, none⟩).run Tryd.prog ((((wb.setCell ⟨g, 0, none⟩ (.int .u8 v.lv)).setCell ⟨g, 1, none⟩ (.int .u8 v.vo)).setCell ⟨g, 2, none⟩ (.int .u8 v.lf)).setCell ⟨g, 3, none⟩ (.int .u8 v.rt)) = .ok (.agg (vcC v)) ((((wb.setCell ⟨g, 0, none⟩ (.int .u8 v.lv)).setCell ⟨g, 1, none⟩ (.int .u8 v.vo)).setCell ⟨g, 2, none⟩ (.int .u8 v.lf)).setCell ⟨g, 3, none⟩ (.int .u8 v.rt)) ∧
    Below g a ((((wb.setCell ⟨g, 0, none⟩ (.int .u8 v.lv)).setCell ⟨g, 1, none⟩ (.int .u8 v.vo)).setCell ⟨g, 2, none⟩ (.int .u8 v.lf)).setCell ⟨g, 3, none⟩ (.int .u8 v.rt)) ∧ Blk ((((wb.setCell ⟨g, 0, none⟩ (.int .u8 v.lv)).setCell ⟨g, 1, none⟩ (.int .u8 v.vo)).setCell ⟨g, 2, none⟩ (.int .u8 v.lf)).setCell ⟨g, 3, none⟩ (.int .u8 v.rt)) g 42 (vcC v) ∧ Kp [g] wb ((((wb.setCell ⟨g, 0, none⟩ (.int .u8 v.lv)).setCell ⟨g, 1, none⟩ (.int .u8 v.vo)).setCell ⟨g, 2, none⟩ (.int .u8 v.lf)).setCell ⟨g, 3, none⟩ (.int .u8 v.rt)) := by
  have NB := (((h.set_ 0 (.int .u8 v.lv)).set_ 1 (.int .u8 v.vo)).set_ 2 (.int .u8 v.lf)).set_ 3 (.int .u8 v.rt)
  simp only [List.setIfInBounds_toArray, List.set_cons_zero, List.set_cons_succ] at NB
  exact ⟨NB.run_load (P := Tryd.prog) Tryd.underlying42 rfl (by kernel_rfl), (((hB.setCell (p := ⟨g, 0, none⟩) (Nat.le_refl _) _).setCell (p := ⟨g, 1, none⟩) (Nat.le_refl _) _).setCell (p := ⟨g, 2, none⟩) (Nat.le_refl _) _).setCell (p := ⟨g, 3, none⟩) (Nat.le_refl _) _, NB, ((((Kp.refl _ _).setCell (.inl (by simp)) _).setCell (.inl (by simp)) _).setCell (.inl (by simp)) _).setCell (.inl (by simp)) _⟩
theorem cells4 {wb : World} {g : Nat} {t : TypeId} {c0 c1 c2 c3 : Value} (h : Blk wb g t #[c0, c1, c2, c3]) : (wb.cell? ⟨g, 0, none⟩ = some c0 ∧ wb.cell? ⟨g, 1, none⟩ = some c1 ∧ wb.cell? ⟨g, 2, none⟩ = some c2 ∧ wb.cell? ⟨g, 3, none⟩ = some c3) ∧ wb.frozen? ⟨g, 0, none⟩ = false ∧ wb.frozen? ⟨g, 1, none⟩ = false ∧ wb.frozen? ⟨g, 2, none⟩ = false ∧ wb.frozen? ⟨g, 3, none⟩ = false :=
  ⟨⟨h.cell 0, h.cell 1, h.cell 2, h.cell 3⟩, h.frozen 0, h.frozen 1, h.frozen 2, h.frozen 3⟩
/-- Four cells that may be written. -/
def Four (g : Nat) (w : World) : Prop := ∃ c0 c1 c2 c3, Blk w g 42 #[c0, c1, c2, c3]
set_option maxHeartbeats 4000000 in
theorem rvoice_any (h : RG w r rs ms s) (n : Nat) (hn : n < 6) : Calls Tryd.prog 23 #[.pointer (some ⟨r, 0, none⟩), .int .i64 n] w fun e w' => e = .returned (.agg (vcC (s.vc n))) ∧ Below w.heap.size w w' := by
  have hB : Below w.heap.size w (w.alloc (.cells #[.int .u8 0, .int .u8 0, .int .u8 0, .int .u8 0] 42)) := (Below.refl _ _).alloc (Nat.le_refl _) _
  have hb : Blk (w.alloc (.cells #[.int .u8 0, .int .u8 0, .int .u8 0, .int .u8 0] 42)) w.heap.size 42 #[.int .u8 0, .int .u8 0, .int .u8 0, .int .u8 0] := Blk.new w _ _
  have hH := h.below hB
  have HI := Lib.hid (And.intro hb (And.intro hH hB))
  have i0 : (0 : Int) ≤ (n : Int) := by omega
  have i1 : (n : Int) < 6 := by omega
  clear h hB hb hH
  go_enter Tryd.func23, Tryd.ntmps23
  go_upto_region 1 with fail
  generalize World.alloc _ _ = wa at *
  obtain ⟨g, hg⟩ : ∃ g, w.heap.size = g := ⟨_, rfl⟩
  rw [hg] at HI
  simp only [hg]
  have HG := Lib.hid hg
  clear hg
  have cc : wa.cell? ⟨r, n, none⟩ = some (.pointer (some ⟨rs n, 0, none⟩)) := HI.out.2.1.1.ptr n hn
  have hx := HI.out.2.1.2.1 n hn
  obtain ⟨_, _, _, _, _, ⟨a0, a1⟩, ⟨b0, b1⟩, _⟩ := hx.2.2
  have HNE := Lib.hid (show ¬ rs n = g from Blk.ne_ hx.1 HI.out.1 (by decide))
  have ct : wa.cell? ⟨rs n, 3, none⟩ = some (.int .u8 (s.xs n).ct) := hx.cell 3 (by decide)
  have bl : wa.cell? ⟨rs n, 4, none⟩ = some (.int .u8 (s.xs n).bl) := hx.cell 4 (by decide)
  have t1 : (s.xs n).ct.tmod 32 = (s.xs n).ct % 32 := Int.tmod_eq_emod_of_nonneg a0
  have t2 : IntKind.u8.wrap ((s.xs n).bl.tdiv 16) = (s.xs n).bl / 16 := by rw [Int.tdiv_eq_ediv_of_nonneg b0, IntWalk.u8_in _ (by omega)]
  have t3 : (s.xs n).bl.tmod 16 = (s.xs n).bl % 16 := Int.tmod_eq_emod_of_nonneg b0
  obtain ⟨o, ho⟩ : ∃ o, (s.xs n).on = o := ⟨_, rfl⟩
  have hoc := on_ct hx.2.2 ho
  have HO := Lib.hid ho
  clear hx ho
  cases o with
  | false =>
    have j1 : (s.xs n).ct < 128 := by simpa using hoc
    clear hoc
    have HV : Hid (s.vc n = Vc.zero) := Lib.hid (by unfold Sg.vc; rw [if_neg (by rw [HO.out]; simp)])
    have hz := cells4 HI.out.1
    obtain ⟨⟨k0, k1, k2, k3⟩, f0, f1, f2, f3⟩ := hz
    have F := Lib.hid (fin4 HI.out.1 Vc.zero HI.out.2.2)
    go_wp2_with fail
    refine bodyPost_ret (v := .agg (vcC Vc.zero)) (results_cell (a := ⟨g, 0, none⟩) Tryd.results23 (by rfl) F.out.1) rfl ?_
    exact ⟨by rw [HV.out], by rw [HG.out]; exact F.out.2.1⟩
  | true =>
    have j1 : ¬ (s.xs n).ct < 128 := by simpa using hoc
    clear hoc
    by_cases h1 : n = 1
    · have n1 : ((n : Int) == 1) = true := by rw [h1]; rfl
      obtain ⟨d, hd⟩ : ∃ d, s.depth = d := ⟨_, rfl⟩
      have HD := Lib.hid hd
      have H1 := Lib.hid h1
      clear hd h1
      by_cases h0 : d = 0
      · subst h0
        have HV : Hid (s.vc n = (s.xs n).vc) := Lib.hid (by unfold Sg.vc; rw [if_pos ⟨HO.out, .inr HD.out⟩])
        go_wp2_with fail
        refine (rdepth_any HI.out.2.1).mono ?_
        rw [HD.out]
        rintro e w1 ⟨rfl, b1⟩
        have HJ := Lib.hid (And.intro (HI.out.1.below b1 HI.out.1.lt) (And.intro (HI.out.2.1.below b1) (Below.trans HI.out.2.2 (b1.mono (by rw [← HG.out]; exact HI.out.2.2.size)))))
        replace ct := (b1.cell (p := ⟨rs n, 3, none⟩) (cell_lt ct)).trans ct
        replace bl := (b1.cell (p := ⟨rs n, 4, none⟩) (cell_lt bl)).trans bl
        clear b1 HI cc
        go_wp2_with fail
        refine rg_begin (S := fun w' => w'.cell? ⟨rs n, 3, none⟩ = some (.int .u8 (s.xs n).ct) ∧ w'.cell? ⟨rs n, 4, none⟩ = some (.int .u8 (s.xs n).bl) ∧ Four g w') 19 #[false, false, false, false, false, false, false, false, false, false, false, false, false, false, false, false, false, false, false] (by kernel_rfl) (by kernel_rfl) (by kernel_rfl) ?_ (fun hHeld => ?_)
        · exact ⟨ct, bl, ⟨_, _, _, _, HJ.out.1⟩⟩
        refine rg_take (i := 0) (d := some 27) (l := #[true, false, false, false, false, false, false, false, false, false, false, false, false, false, false, false, false, false, false]) (fuel := 18) (v := ?_) rfl (by kernel_rfl) (by kernel_rfl) (by kernel_rfl) (by kernel_rfl) (by kernel_rfl) (fun _ _ _ h => h) (by kernel_rfl) ?_ (by assumption) ?_
        rotate_left 1
        · (intro wS hSw; (try dsimp only at hSw); go_simp; try with_reducible rfl)
        try simp only [Act.put, List.setIfInBounds_toArray, List.set_cons_zero, List.set_cons_succ]
        refine rg_take (i := 2) (d := some 29) (l := #[true, false, true, false, false, false, false, false, false, false, false, false, false, false, false, false, false, false, false]) (fuel := 17) (v := ?_) rfl (by kernel_rfl) (by kernel_rfl) (by kernel_rfl) (by kernel_rfl) (by kernel_rfl) (fun _ _ _ h => h) (by kernel_rfl) ?_ (by assumption) ?_
        rotate_left 1
        · (intro wS hSw; (try dsimp only at hSw); go_simp; try with_reducible rfl)
        try simp only [Act.put, List.setIfInBounds_toArray, List.set_cons_zero, List.set_cons_succ]
        refine rg_take (i := 3) (d := some 30) (l := #[true, false, true, true, false, false, false, false, false, false, false, false, false, false, false, false, false, false, false]) (fuel := 16) (v := ?_) rfl (by kernel_rfl) (by kernel_rfl) (by kernel_rfl) (by kernel_rfl) (by kernel_rfl) (fun _ _ _ h => h) (by kernel_rfl) ?_ (by assumption) ?_
        rotate_left 1
        · (intro wS hSw; (try dsimp only at hSw); go_simp; try with_reducible rfl)
        try simp only [Act.put, List.setIfInBounds_toArray, List.set_cons_zero, List.set_cons_succ]
        refine rg_take (i := 4) (d := some 31) (l := #[true, false, true, true, true, false, false, false, false, false, false, false, false, false, false, false, false, false, false]) (fuel := 15) (v := ?_) rfl (by kernel_rfl) (by kernel_rfl) (by kernel_rfl) (by kernel_rfl) (by kernel_rfl) (fun _ _ _ h => h) (by kernel_rfl) ?_ (by assumption) ?_
        rotate_left 1
        · (intro wS hSw; (try dsimp only at hSw); go_simp; try with_reducible rfl)
        try simp only [Act.put, List.setIfInBounds_toArray, List.set_cons_zero, List.set_cons_succ]
        refine rg_take (i := 5) (d := some 32) (l := #[true, false, true, true, true, true, false, false, false, false, false, false, false, false, false, false, false, false, false]) (fuel := 14) (v := ?_) rfl (by kernel_rfl) (by kernel_rfl) (by kernel_rfl) (by kernel_rfl) (by kernel_rfl) (fun _ _ _ h => h) (by kernel_rfl) ?_ (by assumption) ?_
        rotate_left 1
        · (intro wS hSw; (try dsimp only at hSw); go_simp; try with_reducible rfl)
        try simp only [Act.put, List.setIfInBounds_toArray, List.set_cons_zero, List.set_cons_succ]
        refine rg_take (i := 6) (d := some 33) (l := #[true, false, true, true, true, true, true, false, false, false, false, false, false, false, false, false, false, false, false]) (fuel := 13) (v := ?_) rfl (by kernel_rfl) (by kernel_rfl) (by kernel_rfl) (by kernel_rfl) (by kernel_rfl) (fun _ _ _ h => h) (by kernel_rfl) ?_ (by assumption) ?_
        rotate_left 1
        · (intro wS hSw; (try dsimp only at hSw); go_simp; try with_reducible rfl)
        try simp only [Act.put, List.setIfInBounds_toArray, List.set_cons_zero, List.set_cons_succ]
        refine rg_take (i := 7) (d := some 34) (l := #[true, false, true, true, true, true, true, true, false, false, false, false, false, false, false, false, false, false, false]) (fuel := 12) (v := ?_) rfl (by kernel_rfl) (by kernel_rfl) (by kernel_rfl) (by kernel_rfl) (by kernel_rfl) (fun _ _ _ h => h) (by kernel_rfl) ?_ (by assumption) ?_
        rotate_left 1
        · (intro wS hSw; (try dsimp only at hSw); go_simp; try with_reducible rfl)
        try simp only [Act.put, List.setIfInBounds_toArray, List.set_cons_zero, List.set_cons_succ]
        refine rg_take (i := 8) (d := some 35) (l := #[true, false, true, true, true, true, true, true, true, false, false, false, false, false, false, false, false, false, false]) (fuel := 11) (v := ?_) rfl (by kernel_rfl) (by kernel_rfl) (by kernel_rfl) (by kernel_rfl) (by kernel_rfl) (fun _ _ _ h => h) (by kernel_rfl) ?_ (by assumption) ?_
        rotate_left 1
        · (intro wS hSw; (try dsimp only at hSw); go_simp; try with_reducible rfl)
        try simp only [Act.put, List.setIfInBounds_toArray, List.set_cons_zero, List.set_cons_succ]
        refine rg_take (i := 9) (d := some 36) (l := #[true, false, true, true, true, true, true, true, true, true, false, false, false, false, false, false, false, false, false]) (fuel := 10) (v := ?_) rfl (by kernel_rfl) (by kernel_rfl) (by kernel_rfl) (by kernel_rfl) (by kernel_rfl) (fun _ _ _ h => h) (by kernel_rfl) ?_ (by assumption) ?_
        rotate_left 1
        · (intro wS hSw; (try dsimp only at hSw); go_simp; try with_reducible rfl)
        try simp only [Act.put, List.setIfInBounds_toArray, List.set_cons_zero, List.set_cons_succ]
        refine rg_take (i := 10) (d := some 37) (l := #[true, false, true, true, true, true, true, true, true, true, true, false, false, false, false, false, false, false, false]) (fuel := 9) (v := ?_) rfl (by kernel_rfl) (by kernel_rfl) (by kernel_rfl) (by kernel_rfl) (by kernel_rfl) (fun _ _ _ h => h) (by kernel_rfl) ?_ (by assumption) ?_
        rotate_left 1
        · (intro wS hSw; (try dsimp only at hSw); go_simp; try with_reducible rfl)
        try simp only [Act.put, List.setIfInBounds_toArray, List.set_cons_zero, List.set_cons_succ]
        refine rg_take (i := 11) (d := some 38) (l := #[true, false, true, true, true, true, true, true, true, true, true, true, false, false, false, false, false, false, false]) (fuel := 8) (v := ?_) rfl (by kernel_rfl) (by kernel_rfl) (by kernel_rfl) (by kernel_rfl) (by kernel_rfl) (fun _ _ _ h => h) (by kernel_rfl) ?_ (by assumption) ?_
        rotate_left 1
        · (intro wS hSw; (try dsimp only at hSw); go_simp; try with_reducible rfl)
        try simp only [Act.put, List.setIfInBounds_toArray, List.set_cons_zero, List.set_cons_succ]
        refine rg_take (i := 12) (d := some 39) (l := #[true, false, true, true, true, true, true, true, true, true, true, true, true, false, false, false, false, false, false]) (fuel := 7) (v := ?_) rfl (by kernel_rfl) (by kernel_rfl) (by kernel_rfl) (by kernel_rfl) (by kernel_rfl) (fun _ _ _ h => h) (by kernel_rfl) ?_ (by assumption) ?_
        rotate_left 1
        · (intro wS hSw; (try dsimp only at hSw); go_simp; try with_reducible rfl)
        try simp only [Act.put, List.setIfInBounds_toArray, List.set_cons_zero, List.set_cons_succ]
        refine rg_take (i := 13) (d := some 40) (l := #[true, false, true, true, true, true, true, true, true, true, true, true, true, true, false, false, false, false, false]) (fuel := 6) (v := ?_) rfl (by kernel_rfl) (by kernel_rfl) (by kernel_rfl) (by kernel_rfl) (by kernel_rfl) (fun _ _ _ h => h) (by kernel_rfl) ?_ (by assumption) ?_
        rotate_left 1
        · (intro wS hSw; (try dsimp only at hSw); go_simp; try with_reducible rfl)
        try simp only [Act.put, List.setIfInBounds_toArray, List.set_cons_zero, List.set_cons_succ]
        refine rg_take (i := 14) (d := some 41) (l := #[true, false, true, true, true, true, true, true, true, true, true, true, true, true, true, false, false, false, false]) (fuel := 5) (v := ?_) rfl (by kernel_rfl) (by kernel_rfl) (by kernel_rfl) (by kernel_rfl) (by kernel_rfl) (fun _ _ _ h => h) (by kernel_rfl) ?_ (by assumption) ?_
        rotate_left 1
        · (intro wS hSw; (try dsimp only at hSw); go_simp; try with_reducible rfl)
        try simp only [Act.put, List.setIfInBounds_toArray, List.set_cons_zero, List.set_cons_succ]
        refine rg_take (i := 15) (d := some 42) (l := #[true, false, true, true, true, true, true, true, true, true, true, true, true, true, true, true, false, false, false]) (fuel := 4) (v := ?_) rfl (by kernel_rfl) (by kernel_rfl) (by kernel_rfl) (by kernel_rfl) (by kernel_rfl) (fun _ _ _ h => h) (by kernel_rfl) ?_ (by assumption) ?_
        rotate_left 1
        · (intro wS hSw; (try dsimp only at hSw); go_simp; try with_reducible rfl)
        try simp only [Act.put, List.setIfInBounds_toArray, List.set_cons_zero, List.set_cons_succ]
        refine rg_take (i := 16) (d := some 43) (l := #[true, false, true, true, true, true, true, true, true, true, true, true, true, true, true, true, true, false, false]) (fuel := 3) (v := ?_) rfl (by kernel_rfl) (by kernel_rfl) (by kernel_rfl) (by kernel_rfl) (by kernel_rfl) (fun _ _ _ h => h) (by kernel_rfl) ?_ (by assumption) ?_
        rotate_left 1
        · (intro wS hSw; (try dsimp only at hSw); go_simp; try with_reducible rfl)
        try simp only [Act.put, List.setIfInBounds_toArray, List.set_cons_zero, List.set_cons_succ]
        refine rg_next (i := 1) (l := #[true, true, true, true, true, true, true, true, true, true, true, true, true, true, true, true, true, false, false]) (fuel := 2) (by kernel_rfl) rfl (by kernel_rfl) (by kernel_rfl) (fun K hK => ?_)
        go_simp
        (go_at_call 40)
        refine (rclevel_any (w := w1.drew) (r := rs n) (n := ms n) (x := s.xs n) (by exact HJ.out.2.1.2.1 n hn)).mono ?_
        rintro e w2 ⟨rfl, b0'⟩
        have b2 : Below w1.heap.size w1 w2 := below_undrew b0'
        have hb2 := Blk.below HJ.out.1 b2 (Blk.lt HJ.out.1)
        have z0 := (b2.cell (p := ⟨rs n, 3, none⟩) (rcw_lt (HJ.out.2.1.2.1 n hn)).1).trans ct
        have z1 := (b2.cell (p := ⟨rs n, 4, none⟩) (rcw_lt (HJ.out.2.1.2.1 n hn)).1).trans bl
        have HK := Lib.hid hb2
        have HF := Lib.hid (fin4 hb2 (s.xs n).vc (Below.trans HJ.out.2.2 (b2.mono (by rw [← HG.out]; exact HJ.out.2.2.size))))
        clear b0' b2 hb2
        first | (refine hK.out _ _ ?_ (fun hHeld => ?_)) | (go_wp2_with fail; refine hK.out _ _ ?_ (fun hHeld => ?_))
        · (try dsimp only); exact ⟨z0, z1, ⟨_, _, _, _, HK.out⟩⟩
        clear hK K
        try simp only [Act.put, List.setIfInBounds_toArray, List.set_cons_zero, List.set_cons_succ]
        refine rg_take (i := 17) (d := some 44) (l := #[true, true, true, true, true, true, true, true, true, true, true, true, true, true, true, true, true, true, false]) (fuel := 1) (v := ?_) rfl (by kernel_rfl) (by kernel_rfl) (by kernel_rfl) (by kernel_rfl) (by kernel_rfl) (fun _ _ _ h => h) (by kernel_rfl) ?_ (by assumption) ?_
        rotate_left 1
        · (intro wS hSw; (try dsimp only at hSw); go_simp; try with_reducible rfl)
        try simp only [Act.put, List.setIfInBounds_toArray, List.set_cons_zero, List.set_cons_succ]
        obtain ⟨⟨k0, k1, k2, k3⟩, f0, f1, f2, f3⟩ := cells4 HK.out
        unfold Cw.vc at HF
        refine rg_next (i := 18) (l := #[true, true, true, true, true, true, true, true, true, true, true, true, true, true, true, true, true, true, true]) (fuel := 0) (by kernel_rfl) rfl (by kernel_rfl) (by kernel_rfl) (fun K hK => ?_)
        go_simp
        skip
        first | (refine hK.out _ _ ?_ (fun hHeld => ?_)) | (go_wp2_with fail; refine hK.out _ _ ?_ (fun hHeld => ?_))
        · (try dsimp only); exact ⟨(HF.out.2.2.2.cell (p := ⟨rs n, 3, none⟩) (cell_lt z0) (by simpa using HNE.out)).trans z0, (HF.out.2.2.2.cell (p := ⟨rs n, 4, none⟩) (cell_lt z1) (by simpa using HNE.out)).trans z1, ⟨_, _, _, _, HF.out.2.2.1⟩⟩
        clear hK K
        try simp only [Act.put, List.setIfInBounds_toArray, List.set_cons_zero, List.set_cons_succ]
        refine wpAnyH_done (by kernel_rfl) ?_ _
        go_wp2_with fail
        refine bodyPost_ret (v := .agg (vcC (s.xs n).vc)) (results_cell (a := ⟨g, 0, none⟩) Tryd.results23 (by rfl) HF.out.1) rfl ?_
        exact ⟨by rw [HV.out], by rw [HG.out]; exact HF.out.2.1⟩
      · have d0 := neqB h0
        have HV : Hid (s.vc n = Vc.zero) := Lib.hid (by unfold Sg.vc; rw [if_neg (by intro x; exact x.2.elim (fun y => y H1.out) (fun y => h0 (HD.out.symm.trans y)))])
        clear h0
        go_wp2_with fail
        refine (rdepth_any HI.out.2.1).mono ?_
        rw [HD.out]
        rintro e w1 ⟨rfl, b1⟩
        have HJ := Lib.hid (And.intro (HI.out.1.below b1 HI.out.1.lt) (Below.trans HI.out.2.2 (b1.mono (by rw [← HG.out]; exact HI.out.2.2.size))))
        clear b1 HI ct bl cc
        have hz := cells4 HJ.out.1
        obtain ⟨⟨k0, k1, k2, k3⟩, f0, f1, f2, f3⟩ := hz
        have F := Lib.hid (fin4 HJ.out.1 Vc.zero HJ.out.2)
        go_wp2_with fail
        refine bodyPost_ret (v := .agg (vcC Vc.zero)) (results_cell (a := ⟨g, 0, none⟩) Tryd.results23 (by rfl) F.out.1) rfl ?_
        exact ⟨by rw [HV.out], by rw [HG.out]; exact F.out.2.1⟩
    · have n1 : ((n : Int) == 1) = false := neqB (by omega)
      have HV : Hid (s.vc n = (s.xs n).vc) := Lib.hid (by unfold Sg.vc; rw [if_pos ⟨HO.out, .inl h1⟩])
      go_wp2_with fail
      refine rg_begin (S := fun w' => w'.cell? ⟨rs n, 3, none⟩ = some (.int .u8 (s.xs n).ct) ∧ w'.cell? ⟨rs n, 4, none⟩ = some (.int .u8 (s.xs n).bl) ∧ Four g w') 19 #[false, false, false, false, false, false, false, false, false, false, false, false, false, false, false, false, false, false, false] (by kernel_rfl) (by kernel_rfl) (by kernel_rfl) ?_ (fun hHeld => ?_)
      · exact ⟨ct, bl, ⟨_, _, _, _, HI.out.1⟩⟩
      refine rg_take (i := 0) (d := some 27) (l := #[true, false, false, false, false, false, false, false, false, false, false, false, false, false, false, false, false, false, false]) (fuel := 18) (v := ?_) rfl (by kernel_rfl) (by kernel_rfl) (by kernel_rfl) (by kernel_rfl) (by kernel_rfl) (fun _ _ _ h => h) (by kernel_rfl) ?_ (by assumption) ?_
      rotate_left 1
      · (intro wS hSw; (try dsimp only at hSw); go_simp; try with_reducible rfl)
      try simp only [Act.put, List.setIfInBounds_toArray, List.set_cons_zero, List.set_cons_succ]
      refine rg_take (i := 2) (d := some 29) (l := #[true, false, true, false, false, false, false, false, false, false, false, false, false, false, false, false, false, false, false]) (fuel := 17) (v := ?_) rfl (by kernel_rfl) (by kernel_rfl) (by kernel_rfl) (by kernel_rfl) (by kernel_rfl) (fun _ _ _ h => h) (by kernel_rfl) ?_ (by assumption) ?_
      rotate_left 1
      · (intro wS hSw; (try dsimp only at hSw); go_simp; try with_reducible rfl)
      try simp only [Act.put, List.setIfInBounds_toArray, List.set_cons_zero, List.set_cons_succ]
      refine rg_take (i := 3) (d := some 30) (l := #[true, false, true, true, false, false, false, false, false, false, false, false, false, false, false, false, false, false, false]) (fuel := 16) (v := ?_) rfl (by kernel_rfl) (by kernel_rfl) (by kernel_rfl) (by kernel_rfl) (by kernel_rfl) (fun _ _ _ h => h) (by kernel_rfl) ?_ (by assumption) ?_
      rotate_left 1
      · (intro wS hSw; (try dsimp only at hSw); go_simp; try with_reducible rfl)
      try simp only [Act.put, List.setIfInBounds_toArray, List.set_cons_zero, List.set_cons_succ]
      refine rg_take (i := 4) (d := some 31) (l := #[true, false, true, true, true, false, false, false, false, false, false, false, false, false, false, false, false, false, false]) (fuel := 15) (v := ?_) rfl (by kernel_rfl) (by kernel_rfl) (by kernel_rfl) (by kernel_rfl) (by kernel_rfl) (fun _ _ _ h => h) (by kernel_rfl) ?_ (by assumption) ?_
      rotate_left 1
      · (intro wS hSw; (try dsimp only at hSw); go_simp; try with_reducible rfl)
      try simp only [Act.put, List.setIfInBounds_toArray, List.set_cons_zero, List.set_cons_succ]
      refine rg_take (i := 5) (d := some 32) (l := #[true, false, true, true, true, true, false, false, false, false, false, false, false, false, false, false, false, false, false]) (fuel := 14) (v := ?_) rfl (by kernel_rfl) (by kernel_rfl) (by kernel_rfl) (by kernel_rfl) (by kernel_rfl) (fun _ _ _ h => h) (by kernel_rfl) ?_ (by assumption) ?_
      rotate_left 1
      · (intro wS hSw; (try dsimp only at hSw); go_simp; try with_reducible rfl)
      try simp only [Act.put, List.setIfInBounds_toArray, List.set_cons_zero, List.set_cons_succ]
      refine rg_take (i := 6) (d := some 33) (l := #[true, false, true, true, true, true, true, false, false, false, false, false, false, false, false, false, false, false, false]) (fuel := 13) (v := ?_) rfl (by kernel_rfl) (by kernel_rfl) (by kernel_rfl) (by kernel_rfl) (by kernel_rfl) (fun _ _ _ h => h) (by kernel_rfl) ?_ (by assumption) ?_
      rotate_left 1
      · (intro wS hSw; (try dsimp only at hSw); go_simp; try with_reducible rfl)
      try simp only [Act.put, List.setIfInBounds_toArray, List.set_cons_zero, List.set_cons_succ]
      refine rg_take (i := 7) (d := some 34) (l := #[true, false, true, true, true, true, true, true, false, false, false, false, false, false, false, false, false, false, false]) (fuel := 12) (v := ?_) rfl (by kernel_rfl) (by kernel_rfl) (by kernel_rfl) (by kernel_rfl) (by kernel_rfl) (fun _ _ _ h => h) (by kernel_rfl) ?_ (by assumption) ?_
      rotate_left 1
      · (intro wS hSw; (try dsimp only at hSw); go_simp; try with_reducible rfl)
      try simp only [Act.put, List.setIfInBounds_toArray, List.set_cons_zero, List.set_cons_succ]
      refine rg_take (i := 8) (d := some 35) (l := #[true, false, true, true, true, true, true, true, true, false, false, false, false, false, false, false, false, false, false]) (fuel := 11) (v := ?_) rfl (by kernel_rfl) (by kernel_rfl) (by kernel_rfl) (by kernel_rfl) (by kernel_rfl) (fun _ _ _ h => h) (by kernel_rfl) ?_ (by assumption) ?_
      rotate_left 1
      · (intro wS hSw; (try dsimp only at hSw); go_simp; try with_reducible rfl)
      try simp only [Act.put, List.setIfInBounds_toArray, List.set_cons_zero, List.set_cons_succ]
      refine rg_take (i := 9) (d := some 36) (l := #[true, false, true, true, true, true, true, true, true, true, false, false, false, false, false, false, false, false, false]) (fuel := 10) (v := ?_) rfl (by kernel_rfl) (by kernel_rfl) (by kernel_rfl) (by kernel_rfl) (by kernel_rfl) (fun _ _ _ h => h) (by kernel_rfl) ?_ (by assumption) ?_
      rotate_left 1
      · (intro wS hSw; (try dsimp only at hSw); go_simp; try with_reducible rfl)
      try simp only [Act.put, List.setIfInBounds_toArray, List.set_cons_zero, List.set_cons_succ]
      refine rg_take (i := 10) (d := some 37) (l := #[true, false, true, true, true, true, true, true, true, true, true, false, false, false, false, false, false, false, false]) (fuel := 9) (v := ?_) rfl (by kernel_rfl) (by kernel_rfl) (by kernel_rfl) (by kernel_rfl) (by kernel_rfl) (fun _ _ _ h => h) (by kernel_rfl) ?_ (by assumption) ?_
      rotate_left 1
      · (intro wS hSw; (try dsimp only at hSw); go_simp; try with_reducible rfl)
      try simp only [Act.put, List.setIfInBounds_toArray, List.set_cons_zero, List.set_cons_succ]
      refine rg_take (i := 11) (d := some 38) (l := #[true, false, true, true, true, true, true, true, true, true, true, true, false, false, false, false, false, false, false]) (fuel := 8) (v := ?_) rfl (by kernel_rfl) (by kernel_rfl) (by kernel_rfl) (by kernel_rfl) (by kernel_rfl) (fun _ _ _ h => h) (by kernel_rfl) ?_ (by assumption) ?_
      rotate_left 1
      · (intro wS hSw; (try dsimp only at hSw); go_simp; try with_reducible rfl)
      try simp only [Act.put, List.setIfInBounds_toArray, List.set_cons_zero, List.set_cons_succ]
      refine rg_take (i := 12) (d := some 39) (l := #[true, false, true, true, true, true, true, true, true, true, true, true, true, false, false, false, false, false, false]) (fuel := 7) (v := ?_) rfl (by kernel_rfl) (by kernel_rfl) (by kernel_rfl) (by kernel_rfl) (by kernel_rfl) (fun _ _ _ h => h) (by kernel_rfl) ?_ (by assumption) ?_
      rotate_left 1
      · (intro wS hSw; (try dsimp only at hSw); go_simp; try with_reducible rfl)
      try simp only [Act.put, List.setIfInBounds_toArray, List.set_cons_zero, List.set_cons_succ]
      refine rg_take (i := 13) (d := some 40) (l := #[true, false, true, true, true, true, true, true, true, true, true, true, true, true, false, false, false, false, false]) (fuel := 6) (v := ?_) rfl (by kernel_rfl) (by kernel_rfl) (by kernel_rfl) (by kernel_rfl) (by kernel_rfl) (fun _ _ _ h => h) (by kernel_rfl) ?_ (by assumption) ?_
      rotate_left 1
      · (intro wS hSw; (try dsimp only at hSw); go_simp; try with_reducible rfl)
      try simp only [Act.put, List.setIfInBounds_toArray, List.set_cons_zero, List.set_cons_succ]
      refine rg_take (i := 14) (d := some 41) (l := #[true, false, true, true, true, true, true, true, true, true, true, true, true, true, true, false, false, false, false]) (fuel := 5) (v := ?_) rfl (by kernel_rfl) (by kernel_rfl) (by kernel_rfl) (by kernel_rfl) (by kernel_rfl) (fun _ _ _ h => h) (by kernel_rfl) ?_ (by assumption) ?_
      rotate_left 1
      · (intro wS hSw; (try dsimp only at hSw); go_simp; try with_reducible rfl)
      try simp only [Act.put, List.setIfInBounds_toArray, List.set_cons_zero, List.set_cons_succ]
      refine rg_take (i := 15) (d := some 42) (l := #[true, false, true, true, true, true, true, true, true, true, true, true, true, true, true, true, false, false, false]) (fuel := 4) (v := ?_) rfl (by kernel_rfl) (by kernel_rfl) (by kernel_rfl) (by kernel_rfl) (by kernel_rfl) (fun _ _ _ h => h) (by kernel_rfl) ?_ (by assumption) ?_
      rotate_left 1
      · (intro wS hSw; (try dsimp only at hSw); go_simp; try with_reducible rfl)
      try simp only [Act.put, List.setIfInBounds_toArray, List.set_cons_zero, List.set_cons_succ]
      refine rg_take (i := 16) (d := some 43) (l := #[true, false, true, true, true, true, true, true, true, true, true, true, true, true, true, true, true, false, false]) (fuel := 3) (v := ?_) rfl (by kernel_rfl) (by kernel_rfl) (by kernel_rfl) (by kernel_rfl) (by kernel_rfl) (fun _ _ _ h => h) (by kernel_rfl) ?_ (by assumption) ?_
      rotate_left 1
      · (intro wS hSw; (try dsimp only at hSw); go_simp; try with_reducible rfl)
      try simp only [Act.put, List.setIfInBounds_toArray, List.set_cons_zero, List.set_cons_succ]
      refine rg_next (i := 1) (l := #[true, true, true, true, true, true, true, true, true, true, true, true, true, true, true, true, true, false, false]) (fuel := 2) (by kernel_rfl) rfl (by kernel_rfl) (by kernel_rfl) (fun K hK => ?_)
      go_simp
      (go_at_call 40)
      refine (rclevel_any (w := wa.drew) (r := rs n) (n := ms n) (x := s.xs n) (by exact HI.out.2.1.2.1 n hn)).mono ?_
      rintro e w2 ⟨rfl, b0'⟩
      have b2 : Below wa.heap.size wa w2 := below_undrew b0'
      have hb2 := Blk.below HI.out.1 b2 (Blk.lt HI.out.1)
      have z0 := (b2.cell (p := ⟨rs n, 3, none⟩) (rcw_lt (HI.out.2.1.2.1 n hn)).1).trans ct
      have z1 := (b2.cell (p := ⟨rs n, 4, none⟩) (rcw_lt (HI.out.2.1.2.1 n hn)).1).trans bl
      have HK := Lib.hid hb2
      have HF := Lib.hid (fin4 hb2 (s.xs n).vc (Below.trans HI.out.2.2 (b2.mono (by rw [← HG.out]; exact HI.out.2.2.size))))
      clear b0' b2 hb2
      first | (refine hK.out _ _ ?_ (fun hHeld => ?_)) | (go_wp2_with fail; refine hK.out _ _ ?_ (fun hHeld => ?_))
      · (try dsimp only); exact ⟨z0, z1, ⟨_, _, _, _, HK.out⟩⟩
      clear hK K
      try simp only [Act.put, List.setIfInBounds_toArray, List.set_cons_zero, List.set_cons_succ]
      refine rg_take (i := 17) (d := some 44) (l := #[true, true, true, true, true, true, true, true, true, true, true, true, true, true, true, true, true, true, false]) (fuel := 1) (v := ?_) rfl (by kernel_rfl) (by kernel_rfl) (by kernel_rfl) (by kernel_rfl) (by kernel_rfl) (fun _ _ _ h => h) (by kernel_rfl) ?_ (by assumption) ?_
      rotate_left 1
      · (intro wS hSw; (try dsimp only at hSw); go_simp; try with_reducible rfl)
      try simp only [Act.put, List.setIfInBounds_toArray, List.set_cons_zero, List.set_cons_succ]
      obtain ⟨⟨k0, k1, k2, k3⟩, f0, f1, f2, f3⟩ := cells4 HK.out
      unfold Cw.vc at HF
      refine rg_next (i := 18) (l := #[true, true, true, true, true, true, true, true, true, true, true, true, true, true, true, true, true, true, true]) (fuel := 0) (by kernel_rfl) rfl (by kernel_rfl) (by kernel_rfl) (fun K hK => ?_)
      go_simp
      skip
      first | (refine hK.out _ _ ?_ (fun hHeld => ?_)) | (go_wp2_with fail; refine hK.out _ _ ?_ (fun hHeld => ?_))
      · (try dsimp only); exact ⟨(HF.out.2.2.2.cell (p := ⟨rs n, 3, none⟩) (cell_lt z0) (by simpa using HNE.out)).trans z0, (HF.out.2.2.2.cell (p := ⟨rs n, 4, none⟩) (cell_lt z1) (by simpa using HNE.out)).trans z1, ⟨_, _, _, _, HF.out.2.2.1⟩⟩
      clear hK K
      try simp only [Act.put, List.setIfInBounds_toArray, List.set_cons_zero, List.set_cons_succ]
      refine wpAnyH_done (by kernel_rfl) ?_ _
      go_wp2_with fail
      refine bodyPost_ret (v := .agg (vcC (s.xs n).vc)) (results_cell (a := ⟨g, 0, none⟩) Tryd.results23 (by rfl) HF.out.1) rfl ?_
      exact ⟨by rw [HV.out], by rw [HG.out]; exact HF.out.2.1⟩
end
end Go.Proofs.YtaamfcbpelbboaaDoor
namespace Go.Proofs.YtaamfcbpelbboaaDoor
open Go.ChangeShapes Go.WideShapes Go.Deep Go.RowKit
set_option linter.unusedVariables false
section
variable {H : Type} {enc : TypeId × Value → H} {P : Program} {w : World} {base : Nat} {r : Reach} {b0 : Nat} {t e ie : TypeId} {v : Value} {d : DataW H} {ps : List MemPlace}
theorem slice_arrs {q : Nat} {k : IntKind} (ht : P.underlying t = some (.slice e)) (he : P.underlying e = some (.array q ie)) (hie : P.underlying ie = some (.int k)) (hc : P.cellsOf ie = 1) (hC : P.cellsOf e = q) (hq : 0 < q)
    (hval : Value.okWide P w r b0 t v) (hd : DataW.Trod enc P w base (fun _ => true) true t v d ps) :
    ∃ (A : Option Addr) (n cap : Nat) (z : Nat → Nat → Int), v = .slice A n cap ∧ n ≤ cap ∧ cap ≤ maxLen ∧ FRow w q A n (fun i j => .int k (z i j)) ∧ (∀ i j, i < n → j < q → (Lit.int k (z i j)).wf = true) := by
  obtain ⟨a0, len, cap, rfl⟩ := okWide_slice ht hval
  obtain ⟨fuel, hf⟩ := hd
  rcases open_slice ht hf with ⟨hcs, _⟩ | ⟨a, len', cap', m, n, D, Pl, hcs, _, hl, hm, hmm, _, hi⟩
  · simp only [Value.cells, List.cons.injEq, Value.slice.injEq, and_true] at hcs
    obtain ⟨rfl, rfl, rfl⟩ := hcs
    exact ⟨none, 0, 0, fun _ _ => 0, rfl, Nat.le_refl _, by unfold maxLen; omega, fun i hi => absurd hi (by omega), fun i j hi => absurd hi (by omega)⟩
  · simp only [Value.cells, List.cons.injEq, Value.slice.injEq, and_true] at hcs
    obtain ⟨rfl, rfl, rfl⟩ := hcs
    simp only [if_true] at hmm
    have key : ∀ i j, i < len → j < q → ∃ z : Int, w.cell? (a.add (i * q + j)) = some (.int k z) ∧ (Lit.int k z).wf = true := fun i j hil hjq => by
      obtain ⟨cs', hcc, htt⟩ := hi i (by omega)
      rw [hC] at hcc
      obtain ⟨xs, m', _, _, hlen, hx, hel⟩ := DataW.trod_array he htt
      obtain ⟨_, hcl, hat⟩ := World.cells?_some hcc
      have h1 := hel j hjq
      rw [hc, Nat.mul_one, List.drop_eq_getElem_cons (by omega)] at h1
      rw [List.getElem?_eq_getElem (show j < xs.length by omega)] at h1
      simp only [List.take_succ_cons, List.take_zero] at h1
      obtain ⟨z, e0, _, wz⟩ := DataW.trod_int hie h1
      simp only [List.cons.injEq, and_true] at e0
      refine ⟨z, ?_, wz⟩
      have h2 := hat j hjq
      rw [Go.Deep.add_add] at h2
      rw [h2, List.getElem?_eq_getElem (by omega), e0]
    classical
    refine ⟨some a, len, cap, fun i j => if h : i < len ∧ j < q then Classical.choose (key i j h.1 h.2) else 0, rfl, hl, hm, fun i hil => ⟨a, rfl, ?_, fun j hj => ?_⟩, fun i j hil hj => ?_⟩
    · have := cell_lt (Classical.choose_spec (key i 0 hil hq)).1; rwa [block_of_add] at this
    · simp only [dif_pos (show i < len ∧ j < q from ⟨hil, hj⟩)]; exact (Classical.choose_spec (key i j hil hj)).1
    · simp only [dif_pos (show i < len ∧ j < q from ⟨hil, hj⟩)]; exact (Classical.choose_spec (key i j hil hj)).2
end
end Go.Proofs.YtaamfcbpelbboaaDoor
