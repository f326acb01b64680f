/-
  Texts of these proofs, one behind the other: St5.
-/
import Derived.Test.YtnnfnjbfjgjgnaaDoorKST29
import Derived.Test.YtnnfnjbfjgjgnaaDoorKST35
import Derived.Test.YtnnfnjbfjgjgnaaDoorKST05
import Derived.Test.YtnnfnjbfjgjgnaaDoorKST11
import Derived.Test.YtnnfnjbfjgjgnaaDoorKST36
import Derived.OneCell
import Derived.Deep.QuietTactic
import Derived.BigQuiet
namespace Go.Proofs.YtnnfnjbfjgjgnaaDoor
open Go.RowKit
set_option linter.unusedVariables false
set_option linter.unusedSimpArgs false
set_option maxRecDepth 100000
set_option maxHeartbeats 8000000 in
theorem snames_any {w : World} (h : NT w) : Calls Tryd.prog 19 #[] w fun e w' => e = .returned (.slice (some ⟨w.heap.size, 0, none⟩) 16 16) ∧ Blk w' w.heap.size 61 nmA ∧ Below w.heap.size w w' := by
  have c0 : w.cell? ⟨1, 0, none⟩ = some (.string ⟨#[65]⟩) := h.2 0 (by decide)
  have c1 : w.cell? ⟨1, 1, none⟩ = some (.string ⟨#[88]⟩) := h.2 1 (by decide)
  have c2 : w.cell? ⟨1, 2, none⟩ = some (.string ⟨#[89]⟩) := h.2 2 (by decide)
  have c3 : w.cell? ⟨1, 3, none⟩ = some (.string ⟨#[83]⟩) := h.2 3 (by decide)
  have c4 : w.cell? ⟨1, 4, none⟩ = some (.string ⟨#[80]⟩) := h.2 4 (by decide)
  have c5 : w.cell? ⟨1, 5, none⟩ = some (.string ⟨#[80, 67]⟩) := h.2 5 (by decide)
  have c6 : w.cell? ⟨1, 6, none⟩ = some (.string ⟨#[77, 48]⟩) := h.2 6 (by decide)
  have c7 : w.cell? ⟨1, 7, none⟩ = some (.string ⟨#[77, 49]⟩) := h.2 7 (by decide)
  have c8 : w.cell? ⟨1, 8, none⟩ = some (.string ⟨#[77, 50]⟩) := h.2 8 (by decide)
  have c9 : w.cell? ⟨1, 9, none⟩ = some (.string ⟨#[77, 51]⟩) := h.2 9 (by decide)
  have c10 : w.cell? ⟨1, 10, none⟩ = some (.string ⟨#[77, 52]⟩) := h.2 10 (by decide)
  have c11 : w.cell? ⟨1, 11, none⟩ = some (.string ⟨#[77, 53]⟩) := h.2 11 (by decide)
  have c12 : w.cell? ⟨1, 12, none⟩ = some (.string ⟨#[77, 54]⟩) := h.2 12 (by decide)
  have c13 : w.cell? ⟨1, 13, none⟩ = some (.string ⟨#[77, 55]⟩) := h.2 13 (by decide)
  have c14 : w.cell? ⟨1, 14, none⟩ = some (.string ⟨#[76]⟩) := h.2 14 (by decide)
  have c15 : w.cell? ⟨1, 15, none⟩ = some (.string ⟨#[70]⟩) := h.2 15 (by decide)
  have hst := run_storeCells_new (P := Tryd.prog) w 61 #[.string ⟨#[]⟩, .string ⟨#[]⟩, .string ⟨#[]⟩, .string ⟨#[]⟩, .string ⟨#[]⟩, .string ⟨#[]⟩, .string ⟨#[]⟩, .string ⟨#[]⟩, .string ⟨#[]⟩, .string ⟨#[]⟩, .string ⟨#[]⟩, .string ⟨#[]⟩, .string ⟨#[]⟩, .string ⟨#[]⟩, .string ⟨#[]⟩, .string ⟨#[]⟩] #[.string ⟨#[65]⟩, .string ⟨#[88]⟩, .string ⟨#[89]⟩, .string ⟨#[83]⟩, .string ⟨#[80]⟩, .string ⟨#[80, 67]⟩, .string ⟨#[77, 48]⟩, .string ⟨#[77, 49]⟩, .string ⟨#[77, 50]⟩, .string ⟨#[77, 51]⟩, .string ⟨#[77, 52]⟩, .string ⟨#[77, 53]⟩, .string ⟨#[77, 54]⟩, .string ⟨#[77, 55]⟩, .string ⟨#[76]⟩, .string ⟨#[70]⟩] (by kernel_rfl) rfl (by decide +kernel)
  clear h
  go_enter Tryd.func19, Tryd.ntmps19
  go_wp2_with fail
  go_ret
  exact ⟨rfl, Blk.new w _ _, (Below.refl _ w).alloc (Nat.le_refl _) _⟩
/-- The names of those of the first k that aren't alike. -/
def otl (x y : Nat → Int) : Nat → List Value
  | 0 => []
  | k + 1 => if x k = y k then otl x y k else otl x y k ++ [.string (nmS k)]
theorem otl_len (x y : Nat → Int) (k : Nat) : (otl x y k).length ≤ k := by
  induction k with
  | zero => simp [otl]
  | succ k ih => simp only [otl]; split; omega; simp; omega
theorem otl_same (x y : Nat → Int) (k d : Nat) (h : ∀ i, k ≤ i → i < k + d → x i = y i) : otl x y (k + d) = otl x y k := by
  induction d with
  | zero => rfl
  | succ d ih =>
    rw [Nat.add_succ]
    simp only [otl]
    rw [if_pos (h (k + d) (by omega) (by omega)), ih fun i h1 h2 => h i h1 (by omega)]
theorem slen2 {α : Type} {l : List α} (h : l.length = 2) : ∃ a b, l = [a, b] := by
  match l, h with
  | [a, b], _ => exact ⟨a, b, rfl⟩
theorem srow_zero (w : World) : (zeroValue 48).run Tryd.prog w = .ok (.agg #[.int .u16 0, .int .u16 0, .int .u16 0, .int .u16 0, .int .u16 0, .int .u16 0, .int .u16 0, .int .u16 0, .int .u16 0, .int .u16 0, .int .u16 0, .int .u16 0, .int .u16 0, .int .u16 0, .int .u16 0, .int .u16 0]) w := by kernel_rfl
theorem str_info : (Tryd.prog.info? 9).map (fun i => (i.zero, i.size, i.bytes)) = some (some (.string ⟨#[]⟩), 1, 16) := by kernel_rfl
theorem rw_eql (f g : Nat → Int) (W : World) : (Op.equalIn 10000 48 (.agg (rwA f)) (.agg (rwA g))).run Tryd.prog W = .ok ((List.range 16).all fun i => f i == g i) W := run_eql_ints (n := 16) Tryd.underlying48 Tryd.underlying22 (by kernel_rfl) (by kernel_rfl) 9998 f g W
def mixR (x y : Nat → Int) (i : Nat) : Nat → Int := fun j => if j < i then y j else x j
theorem mixR_zero (x y : Nat → Int) : mixR x y 0 = x := funext fun j => if_neg (by omega)
theorem mixR_at (x y : Nat → Int) (q : Nat) : mixR x y q q = x q := if_neg (by omega)
theorem mixR_set (x y : Nat → Int) (q : Nat) : (rwA (mixR x y q)).setIfInBounds q (.int .u16 (y q)) = rwA (mixR x y (q + 1)) := by
  rw [rwA_set]
  exact rwA_congr fun j _ => by
    unfold mixR
    by_cases e : j = q
    · subst e; rw [if_pos rfl, if_pos (by omega)]
    · rw [if_neg e]
      by_cases h : j < q
      · rw [if_pos h, if_pos (by omega)]
      · rw [if_neg h, if_neg (by omega)]
theorem mixR_same (x y : Nat → Int) (q : Nat) (h : x q = y q) : rwA (mixR x y (q + 1)) = rwA (mixR x y q) := by
  rw [← mixR_set]
  have := rwA_set (mixR x y q) q (y q)
  rw [this]
  exact rwA_congr fun j _ => by
    by_cases e : j = q
    · subst e; rw [if_pos rfl, mixR_at, h]
    · rw [if_neg e]
theorem mixR_all (x y : Nat → Int) (q : Nat) (hq : q ≤ 16) : ((List.range 16).all fun i => mixR x y q i == y i) = true → otl x y 16 = otl x y q := fun h => by
  have h2 : ∀ i, i < 16 → mixR x y q i = y i := fun i hi => by
    have := List.all_eq_true.1 h i (by simpa using hi)
    simpa using this
  have := otl_same x y q (16 - q) fun i h1 hi => by
    have := h2 i (by omega)
    unfold mixR at this
    rwa [if_neg (by omega)] at this
  rwa [show q + (16 - q) = 16 by omega] at this
theorem mixR_some (x y : Nat → Int) (q : Nat) : ((List.range 16).all fun i => mixR x y q i == y i) = false → q < 16 := fun h => by
  by_cases hq : q < 16
  · exact hq
  · exfalso
    have : ((List.range 16).all fun i => mixR x y q i == y i) = true := List.all_eq_true.2 fun i hi => by
      have hi' : i < 16 := by simpa using hi
      simp [mixR, show i < q by omega]
    rw [this] at h
    cases h
set_option maxHeartbeats 16000000 in
theorem sother_any (a b : Nat → Int) (ha : StOk a) (hb : StOk b) {w : World} (h : NT w) : Calls Tryd.prog 20 #[.agg (stA a), .agg (stA b)] w fun e w' => (∃ v, e = .returned v ∧ w'.ownsRow w.heap.size 9 1 v (otl a b 16).length (otl a b 16)) ∧ Below w.heap.size w w' := by
  have Ha := Lib.hid ha
  have Hb := Lib.hid hb
  have HT := Lib.hid h
  have k0 : Blk ((w.alloc (.cells (stA a) 25)).alloc (.cells (stA b) 25)) w.heap.size 25 (stA a) := (Blk.new w _ _).alloc _
  have k1 : Blk ((w.alloc (.cells (stA a) 25)).alloc (.cells (stA b) 25)) (w.heap.size + 1) 25 (stA b) := Blk.new_ (by simp)
  have kb : Below w.heap.size w ((w.alloc (.cells (stA a) 25)).alloc (.cells (stA b) 25)) := ((Below.refl _ w).alloc (Nat.le_refl _) _).alloc (by simp) _
  have K0 := Lib.hid k0
  have K1 := Lib.hid k1
  have KB := Lib.hid kb
  clear ha hb h k0 k1 kb
  go_enter Tryd.func20, Tryd.ntmps20
  go_upto_region 2 with fail
  go_cut [6, 7] from 6 to 12 (fun s6 s7 wx => ∃ g6 g7, s6 = .pointer (some ⟨g6, 0, none⟩) ∧ s7 = .pointer (some ⟨g7, 0, none⟩) ∧ g6 ≠ g7 ∧ w.heap.size ≤ g6 ∧ w.heap.size ≤ g7 ∧ Blk wx g6 48 (rwA a) ∧ Blk wx g7 48 (rwA b) ∧ Below w.heap.size w wx)
  case first =>
    generalize World.alloc _ _ = w1 at *
    refine rg_begin (S := fun w' => Blk w' w.heap.size 25 (stA a) ∧ Blk w' (w.heap.size + 1) 25 (stA b) ∧ Below w.heap.size w w' ∧ w.heap.size + 1 < w'.heap.size) 8 #[false, false, false, false, false, false, false, false] (by kernel_rfl) (by kernel_rfl) (by kernel_rfl) ?_ (fun hHeld => ?_)
    · exact ⟨K0.out.drew_, K1.out.drew_, KB.out.drew, K1.out.lt⟩
    refine rg_take (i := 0) (d := some 9) (l := #[true, false, false, false, false, false, false, false]) (fuel := 7) (v := .agg (stA a)) rfl (by kernel_rfl) (by kernel_rfl) (by kernel_rfl) (by kernel_rfl) (by kernel_rfl) (fun _ _ _ h => h) (by kernel_rfl) ?_ (by assumption) ?_
    · (intro wS hSw; (try dsimp only at hSw); exact exec_load_row 25 (.tmp 2) rfl w.heap.size rfl 25 (stA a) (0, 0) _ hSw.1 Tryd.underlying25 rfl (by rw [stA_size]; exact size_state))
    try simp only [Act.put, List.setIfInBounds_toArray, List.set_cons_zero, List.set_cons_succ]
    refine rg_take (i := 2) (d := some 11) (l := #[true, false, true, false, false, false, false, false]) (fuel := 6) (v := .agg (stA b)) rfl (by kernel_rfl) (by kernel_rfl) (by kernel_rfl) (by kernel_rfl) (by kernel_rfl) (fun _ _ _ h => h) (by kernel_rfl) ?_ (by assumption) ?_
    · (intro wS hSw; (try dsimp only at hSw); exact exec_load_row 25 (.tmp 3) rfl (w.heap.size + 1) rfl 25 (stA b) (0, 0) _ hSw.2.1 Tryd.underlying25 rfl (by rw [stA_size]; exact size_state))
    try simp only [Act.put, List.setIfInBounds_toArray, List.set_cons_zero, List.set_cons_succ]
    have hS : ∀ w1 w2, (fun w' => Blk w' w.heap.size 25 (stA a) ∧ Blk w' (w.heap.size + 1) 25 (stA b) ∧ Below w.heap.size w w' ∧ w.heap.size + 1 < w'.heap.size) w1 → Below w1.heap.size w1 w2 → (fun w' => Blk w' w.heap.size 25 (stA a) ∧ Blk w' (w.heap.size + 1) 25 (stA b) ∧ Below w.heap.size w w' ∧ w.heap.size + 1 < w'.heap.size) w2 :=
      fun w1 w2 h hb => ⟨h.1.below hb h.1.lt, h.2.1.below hb h.2.1.lt, h.2.2.1.trans (hb.mono h.2.2.1.size), Nat.lt_of_lt_of_le h.2.2.2 hb.size⟩
    refine RgC.start (B := w.heap.size) (w0 := w) (fuel := 4) [⟨4, 6, 48, #[.int .u16 0, .int .u16 0, .int .u16 0, .int .u16 0, .int .u16 0, .int .u16 0, .int .u16 0, .int .u16 0, .int .u16 0, .int .u16 0, .int .u16 0, .int .u16 0, .int .u16 0, .int .u16 0, .int .u16 0, .int .u16 0], undef⟩, ⟨5, 7, 48, #[.int .u16 0, .int .u16 0, .int .u16 0, .int .u16 0, .int .u16 0, .int .u16 0, .int .u16 0, .int .u16 0, .int .u16 0, .int .u16 0, .int .u16 0, .int .u16 0, .int .u16 0, .int .u16 0, .int .u16 0, .int .u16 0], undef⟩] ?_ (by kernel_rfl) (by rfl) rfl KB.out.drew KB.out.size (by assumption)
    refine RgC.call (fuel := 3) (j := 1) (d := 10) (V := fun v => v = .agg (rwA a)) rfl rfl rfl (by kernel_rfl) (fun x hx => by simp only [List.mem_cons, List.not_mem_nil, or_false] at hx; rcases hx with rfl | rfl <;> exact AlOk.of rfl rfl rfl rfl srow_zero rfl) hS (by decide) (by decide) (by kernel_rfl) ?_ ?_
    · intro os wq hF hSq K hK
      obtain ⟨o0, o1, rfl⟩ := slen2 hF.1
      clear hF
      simp only [putO, Act.put, List.setIfInBounds_toArray, List.set_cons_zero, List.set_cons_succ] at hK ⊢
      generalize AlS.val _ o0 = v0 at *
      generalize AlS.val _ o1 = v1 at *
      go_simp
      go_at_call 27
      refine (sall_any a Ha.out wq).mono ?_
      rintro e w1 ⟨rfl, b1⟩
      exact hK.out _ _ rfl b1
    rintro _ rfl
    refine RgC.call (fuel := 2) (j := 3) (d := 12) (V := fun v => v = .agg (rwA b)) rfl rfl rfl (by kernel_rfl) (fun x hx => by simp only [List.mem_cons, List.not_mem_nil, or_false] at hx; rcases hx with rfl | rfl <;> exact AlOk.of rfl rfl rfl rfl srow_zero rfl) hS (by decide) (by decide) (by kernel_rfl) ?_ ?_
    · intro os wq hF hSq K hK
      obtain ⟨o0, o1, rfl⟩ := slen2 hF.1
      clear hF
      simp only [putO, Act.put, List.setIfInBounds_toArray, List.set_cons_zero, List.set_cons_succ] at hK ⊢
      generalize AlS.val _ o0 = v0 at *
      generalize AlS.val _ o1 = v1 at *
      go_simp
      go_at_call 27
      refine (sall_any b Hb.out wq).mono ?_
      rintro e w1 ⟨rfl, b1⟩
      exact hK.out _ _ rfl b1
    rintro _ rfl
    refine RgC.fin (by kernel_rfl) (fun x hx => by simp only [List.mem_cons, List.not_mem_nil, or_false] at hx; rcases hx with rfl | rfl <;> exact AlOk.of rfl rfl rfl rfl srow_zero rfl) hS (by decide) (by decide) ?_
    intro gs w4 hF hS4
    obtain ⟨g0, g1, rfl⟩ := slen2 (l := gs) (by simpa using hF.1)
    obtain ⟨B0, l0⟩ := hF.2.1 0 _ g0 rfl rfl
    obtain ⟨B1, l1⟩ := hF.2.1 1 _ g1 rfl rfl
    have hne : g0 ≠ g1 := fun e => by
      have := hF.2.2.1 0 1 g0 rfl (by rw [e]; rfl)
      cases this
    dsimp only at B0 B1
    clear hF
    simp only [putO, markB, AlS.val, List.map_cons, List.map_nil, List.length_cons, List.length_nil, List.replicate_succ, List.replicate_zero, Act.put, List.setIfInBounds_toArray, List.set_cons_zero, List.set_cons_succ]
    have T0 := B0.run_store (P := Tryd.prog) (rwA a) (by rw [rwA_size]; rfl) (rwA_one _)
    have q1 := B1.rowFar (Ne.symm hne) (rwA a)
    have q0 := B0.row (rwA a)
    have T1 := q1.run_store (P := Tryd.prog) (rwA b) (by rw [rwA_size]; rfl) (rwA_one _)
    have r1 := q1.row (rwA b)
    have r0 := q0.rowFar hne (rwA b)
    have m0 : w.heap.size ≠ g0 := hS4.1.ne_ B0 (by decide)
    have m1 : w.heap.size ≠ g1 := hS4.1.ne_ B1 (by decide)
    have m2 : w.heap.size + 1 ≠ g0 := hS4.2.1.ne_ B0 (by decide)
    have m3 : w.heap.size + 1 ≠ g1 := hS4.2.1.ne_ B1 (by decide)
    have e1 := below_setRow hS4.2.2.1 l0 (rwA a)
    have e2 := below_setRow e1 l1 (rwA b)
    have S1 := And.intro (hS4.1.rowFar m0 (rwA a)) (And.intro (hS4.2.1.rowFar m2 (rwA a)) (And.intro e1 (show w.heap.size + 1 < (w4.setRow g0 (rwA a)).heap.size by rw [setRow_size]; exact hS4.2.2.2)))
    have S2 := And.intro (S1.1.rowFar m1 (rwA b)) (And.intro (S1.2.1.rowFar m3 (rwA b)) (And.intro e2 (show w.heap.size + 1 < ((w4.setRow g0 (rwA a)).setRow g1 (rwA b)).heap.size by rw [setRow_size, setRow_size]; exact hS4.2.2.2)))
    have HS1 := Lib.hid S1
    have HS2 := Lib.hid S2
    have HFIN := Lib.hid (And.intro hne (And.intro l0 (And.intro l1 (And.intro r0 (And.intro r1 e2)))))
    have z0 := rwA_size a
    have z1 := rwA_size b
    clear q1 q0 r1 r0 m0 m1 m2 m3 e1 e2 S1 S2 B0 B1 hS4 l0 l1 hne
    refine rg_next (i := 6) (l := #[true, true, true, true, true, true, true, false]) (fuel := 1) (by kernel_rfl) rfl (by kernel_rfl) (by kernel_rfl) (fun K hK => ?_)
    go_simp
    refine hK.out _ _ ?_ (fun hHeld => ?_)
    · exact HS1.out
    clear hK K
    refine rg_next (i := 7) (l := #[true, true, true, true, true, true, true, true]) (fuel := 0) (by kernel_rfl) rfl (by kernel_rfl) (by kernel_rfl) (fun K hK => ?_)
    go_simp
    refine hK.out _ _ ?_ (fun hHeld => ?_)
    · exact HS2.out
    clear hK K
    refine wpAnyH_done (by kernel_rfl) ?_ _
    clear T0 T1 hHeld
    go_wp2_with fail
    go_meet
    case rel => exact ⟨g0, g1, rfl, rfl, HFIN.out⟩
  case rest =>
    clear K0 K1 KB
    obtain ⟨g6, g7, rfl, rfl, hne, l6, l7, b6, b7, hB⟩ := hcut
    have B6 := Lib.hid b6
    have B7 := Lib.hid b7
    have HB := Lib.hid hB
    clear b6 b7 hB
    go_wp2_with fail
    go_loopw [5, 8] (fun v i wr => ∃ q : Nat, q ≤ 16 ∧ i = .int .i64 q ∧ wr.ownsRow w.heap.size 9 1 v (otl a b q).length (otl a b q) ∧ Blk wr g6 48 (rwA (mixR a b q)) ∧ Blk wr g7 48 (rwA b) ∧ Below w.heap.size w wr) (fun _ i _ => 16 - (intOf i).toNat)
    case atStart => exact ⟨0, by omega, rfl, World.ownsRow_nil _ _ _ _, by rw [mixR_zero]; exact B6.out, B7.out, HB.out⟩
    case round =>
      clear B6 B7 HB
      obtain ⟨q, hq, rfl, own, h6, h7, hB⟩ := hrel
      have hT := HT.out.below hB
      have hall := rw_eql (mixR a b q) b wr
      obtain ⟨A, hA⟩ : ∃ A, ((List.range 16).all fun i => mixR a b q i == b i) = A := ⟨_, rfl⟩
      rw [hA] at hall
      have HA := Lib.hid hA
      have hs6 : (Tryd.prog.info? 48).map (·.size) = some (rwA (mixR a b q)).size := by rw [rwA_size]; exact size_row
      have hs7 : (Tryd.prog.info? 48).map (·.size) = some (rwA b).size := by rw [rwA_size]; exact size_row
      have HS6 := Lib.hid hs6
      have HS7 := Lib.hid hs7
      have H6 := Lib.hid h6
      have H7 := Lib.hid h7
      have HBr := Lib.hid hB
      have OWN := Lib.hid own
      have zz := rwA_size b
      clear hs6 hs7 hA h6 h7
      cases A with
      | true =>
        have hl := mixR_all a b q hq HA.out
        have HL := Lib.hid hl
        clear hl own hB hT hq
        go_wp2_with (first | (refine wpList_load_row rfl 48 (.tmp 6) rfl g6 (by rfl) 48 (rwA (mixR a b q)) (0, 0) _ H6.out Tryd.underlying48 rfl HS6.out ?_) | (refine wpList_load_row rfl 48 (.tmp 7) rfl g7 (by rfl) 48 (rwA b) (0, 0) _ H7.out Tryd.underlying48 rfl HS7.out ?_))
        go_ret
        exact ⟨⟨_, rfl, by rw [HL.out]; exact OWN.out⟩, HBr.out⟩
      | false =>
        have hlt := mixR_some a b q HA.out
        have q0 : (0 : Int) ≤ q := by omega
        have q1 : (q : Int) < 16 := by omega
        have hn : wr.cell? ⟨1, q, none⟩ = some (.string (nmS q)) := hT.2 q hlt
        have c6 : wr.cell? ⟨g6, q, none⟩ = some (.int .u16 (a q)) := (H6.out.cell q).trans ((rwA_at _ _ hlt).trans (by rw [mixR_at]))
        have f6 := H6.out.frozen q
        have c7 : wr.cell? ⟨g7, q, none⟩ = some (.int .u16 (b q)) := (H7.out.cell q).trans (rwA_at _ _ hlt)
        obtain ⟨x, hx⟩ : ∃ x, a q = x := ⟨_, rfl⟩
        obtain ⟨y, hy⟩ : ∃ y, b q = y := ⟨_, rfl⟩
        have HX := Lib.hid hx
        have HY := Lib.hid hy
        rw [hx] at c6
        rw [hy] at c7
        clear hx hy
        by_cases he : x = y
        · have hb : (x != y) = false := by simp [he]
          have HE := Lib.hid he
          clear he own hB hT hn f6
          go_wp2_with (first | (refine wpList_load_row rfl 48 (.tmp 6) rfl g6 (by rfl) 48 (rwA (mixR a b q)) (0, 0) _ H6.out Tryd.underlying48 rfl HS6.out ?_) | (refine wpList_load_row rfl 48 (.tmp 7) rfl g7 (by rfl) 48 (rwA b) (0, 0) _ H7.out Tryd.underlying48 rfl HS7.out ?_))
          go_quiet (fail)
          go_wp2_with fail
          go_roundw
          case rel =>
            have e1 : a q = b q := by rw [HX.out, HY.out, HE.out]
            exact ⟨q + 1, by omega, by go_num, by simp only [otl]; rw [if_pos e1]; exact OWN.out, by rw [mixR_same a b q e1]; exact H6.out, H7.out, below_drewN HBr.out _⟩
          case measure => simp [intOf]; omega
        · have hb : (x != y) = true := by simp [he]
          have HE := Lib.hid he
          clear he hB
          go_wp2_with (first | (refine wpList_load_row rfl 48 (.tmp 6) rfl g6 (by rfl) 48 (rwA (mixR a b q)) (0, 0) _ H6.out Tryd.underlying48 rfl HS6.out ?_) | (refine wpList_load_row rfl 48 (.tmp 7) rfl g7 (by rfl) 48 (rwA b) (0, 0) _ H7.out Tryd.underlying48 rfl HS7.out ?_))
          go_quiet (fail)
          go_upto_region 8 with fail
          have n6 : some g6 ≠ u5.ownBlock := blk_not_row H6.out (by decide) own
          have n7 : some g7 ≠ u5.ownBlock := blk_not_row H7.out (by decide) own
          have o2 : ((wr.drewN nq).setCell ⟨g6, q, none⟩ (.int .u16 y)).ownsRow w.heap.size 9 1 u5 (otl a b q).length (otl a b q) := ownsRow_setCell_other (w := wr.drewN nq) own (Ne.symm n6) _
          have b2 : Below w.heap.size w ((wr.drewN nq).setCell ⟨g6, q, none⟩ (.int .u16 y)) := (below_drewN HBr.out nq).setCell (p := ⟨g6, q, none⟩) l6 _
          have h62 : Blk ((wr.drewN nq).setCell ⟨g6, q, none⟩ (.int .u16 y)) g6 48 (rwA (mixR a b (q + 1))) := by
            rw [← mixR_set, HY.out]
            exact (H6.out.drewN nq).set_ q _
          have h72 : Blk ((wr.drewN nq).setCell ⟨g6, q, none⟩ (.int .u16 y)) g7 48 (rwA b) := (H7.out.drewN nq).far (p := ⟨g6, q, none⟩) (Ne.symm hne) _
          have hn2 : ((wr.drewN nq).setCell ⟨g6, q, none⟩ (.int .u16 y)).cell? ⟨1, q, none⟩ = some (.string (nmS q)) := (HT.out.below b2).2 q hlt
          clear hT hn c6 f6 c7 n6 n7 own hall
          generalize (wr.drewN nq).setCell _ _ = w2 at *
          have hlen := otl_len a b q
          obtain ⟨t, ht⟩ : ∃ t, nmS q = t := ⟨_, rfl⟩
          rw [ht] at hn2
          obtain ⟨v', w', hrun, own', gb⟩ := more_new (P := Tryd.prog) (t := 37) (e := 9) (ty := 37) (c := 1) (m := 1) Tryd.underlying37 str_info rfl (by decide) o2 #[.string t] rfl (fun u hu => by simp at hu; subst hu; rfl) rfl (by omega) (by omega) b2.size
          have k6 := Blk.grown (h62.alloc (.cells #[.string t] 9)) gb (blk_not_row h62 (by decide) o2)
          have k7 := Blk.grown (h72.alloc (.cells #[.string t] 9)) gb (blk_not_row h72 (by decide) o2)
          have kB : Below w.heap.size w w' := (b2.alloc b2.size (.cells #[.string t] 9)).grown gb (by simp; have := b2.size; omega) (fun j h => (o2.lt j h).1)
          have K6 := Lib.hid k6
          have K7 := Lib.hid k7
          have KB := Lib.hid kB
          have OW := Lib.hid own'
          have HTT := Lib.hid ht
          clear k6 k7 kB own' ht gb o2 b2 h62 h72 hlen HBr OWN H6 H7
          go_wp2_with (at_builtin; refine wpList_append_run rfl (.tmp 30) (.tmp 34) 37 rfl rfl rfl hrun ?_)
          go_roundw
          case rel =>
            have e1 : ¬ a q = b q := by rw [HX.out, HY.out]; exact HE.out
            exact ⟨q + 1, by omega, by go_num, by simp only [otl]; rw [if_neg e1, List.length_append, HTT.out]; exact OW.out, K6.out, K7.out, KB.out⟩
          case measure => simp [intOf]; omega
end Go.Proofs.YtnnfnjbfjgjgnaaDoor
