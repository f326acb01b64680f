/-
  The document's block on its way: Next, Step.
-/
import Derived.Test.YtndhkdcdhpfajaaDoorBur4
namespace Go.Proofs.YtndhkdcdhpfajaaDoor
open Go.RowKit
set_option linter.unusedVariables false
set_option linter.unusedSimpArgs false
set_option maxRecDepth 100000
set_option maxHeartbeats 4000000 in
theorem rbnext_0 {w : World} {g : Nat} {k b m : Nat} {f t d l : Int} (h : RB w g ⟨k, f, t, b, m, 0, d⟩ l) (ho : Bu.ok ⟨k, f, t, b, m, 0, d⟩) (l0 : 0 ≤ l) (l1 : l ≤ 65535) (hl : cntP l = (b : Int)) (x : m ≠ b) : Calls Tryd.prog 21 #[.pointer (some ⟨g, 0, none⟩)] w fun e w' => e = .returned (.tuple #[.int .u8 2, .int .u16 0]) ∧ Below w.heap.size w w' := by
  have hD := rbdone_any h ho l0 l1 hl
  rw [decide_eq_false x] at hD
  have b1 := ho.b1
  have m1 := ho.m1
  dsimp only at b1 m1
  have h0 : RB w g ⟨k, f, t, b, m, 0, d⟩ l := h
  obtain ⟨a, ha⟩ : ∃ a, 6 * m + 0 = a := ⟨_, rfl⟩
  have am : (a : Int) % 6 = 0 := by omega
  have amt : (a : Int).tmod 6 = 0 := by rw [Int.tmod_eq_emod_of_nonneg (by omega)]; exact am
  have aq : (a : Int) / 6 = (m : Int) := by omega
  have aqt : (a : Int).tdiv 6 = (m : Int) := by rw [Int.tdiv_eq_ediv_of_nonneg (by omega)]; exact aq
  have a1 : (a : Int) + 1 ≤ 500000 := by omega
  have mb : (m : Int) ≤ 65536 := by omega
  have HA := Lib.hid ha
  have H := Lib.hid h0
  have HD := Lib.hid hD
  have hM := fun W => rvat_any k ho.k5 f t (m : Int) ho.f0 ho.f1 ho.t0 ho.t1 (by omega) (by omega) W
  have HM := Lib.hid hM
  clear h h0 ho hD hM ha b1 m1 l0 l1 hl x
  go_enter Tryd.func21, Tryd.ntmps21
  go_wp2_with fail
  refine HD.out.mono ?_
  rintro e w1 ⟨rfl, hb⟩
  have h1 := H.out.keep hb
  have HB := Lib.hid hb
  have c0 : w1.cell? ⟨g, 0, none⟩ = some (.int .u8 (k : Int)) := Blk.cell h1 0
  have c1 : w1.cell? ⟨g, 1, none⟩ = some (.int .u16 f) := Blk.cell h1 1
  have c2 : w1.cell? ⟨g, 2, none⟩ = some (.int .u16 t) := Blk.cell h1 2
  have c4 : w1.cell? ⟨g, 4, none⟩ = some (.int .i64 (a : Int)) := by rw [← HA.out]; exact Blk.cell h1 4
  clear hb h1
  go_wp2_with fail
  go_quiet ((go_at_call 26; exact Calls.quiet_of_same ((HM.out _).mono fun _ _ h => ⟨h.1, h.2.symm⟩)))
  go_wp2
  go_ret2
  exact ⟨by first | rfl | simp, below_drewN HB.out _⟩
set_option maxHeartbeats 4000000 in
theorem rbstep_0 {w : World} {g : Nat} {k b m : Nat} {f t d l : Int} (h : RB w g ⟨k, f, t, b, m, 0, d⟩ l) (ho : Bu.ok ⟨k, f, t, b, m, 0, d⟩) (l0 : 0 ≤ l) (l1 : l ≤ 65535) (hl : cntP l = (b : Int)) (x : m ≠ b) (v : Int) : Calls Tryd.prog 9 #[.pointer (some ⟨g, 0, none⟩), .int .u8 v] w fun e w' => e = .returned (.tuple #[]) ∧ RB w' g ⟨k, f, t, b, m, 1, d⟩ l ∧ Kp [g] w w' := by
  have hD := rbdone_any h ho l0 l1 hl
  rw [decide_eq_false x] at hD
  have b1 := ho.b1
  have m1 := ho.m1
  dsimp only at b1 m1
  have h0 : RB w g ⟨k, f, t, b, m, 0, d⟩ l := h
  obtain ⟨a, ha⟩ : ∃ a, 6 * m + 0 = a := ⟨_, rfl⟩
  have am : (a : Int) % 6 = 0 := by omega
  have amt : (a : Int).tmod 6 = 0 := by rw [Int.tmod_eq_emod_of_nonneg (by omega)]; exact am
  have aq : (a : Int) / 6 = (m : Int) := by omega
  have aqt : (a : Int).tdiv 6 = (m : Int) := by rw [Int.tdiv_eq_ediv_of_nonneg (by omega)]; exact aq
  have a1 : (a : Int) + 1 ≤ 500000 := by omega
  have mb : (m : Int) ≤ 65536 := by omega
  have HA := Lib.hid ha
  have H := Lib.hid h0
  have HD := Lib.hid hD
  have ec : rbC ⟨k, f, t, b, m, 1, d⟩ l = #[.int .u8 (k : Int), .int .u16 f, .int .u16 t, .int .u16 l, .int .i64 ((a : Int) + 1), .int .u8 d] := by
    unfold rbC
    dsimp only
    rw [← ha]
    rw [show ((6 * m + 1 : Nat) : Int) = ((6 * m + 0 : Nat) : Int) + 1 by omega]
  have HEC := Lib.hid ec
  clear h h0 ho hD ha b1 m1 l0 l1 hl x ec
  go_enter Tryd.func9, Tryd.ntmps9
  go_wp2_with fail
  refine HD.out.mono ?_
  rintro e w1 ⟨rfl, hb⟩
  have h1 := H.out.keep hb
  have HB := Lib.hid hb
  have c4 : w1.cell? ⟨g, 4, none⟩ = some (.int .i64 (a : Int)) := by rw [← HA.out]; exact Blk.cell h1 4
  have c5 : w1.cell? ⟨g, 5, none⟩ = some (.int .u8 d) := Blk.cell h1 5
  have f4 := Blk.frozen h1 4
  have f5 := Blk.frozen h1 5
  have H1 := Lib.hid h1
  clear hb h1
  go_wp2
  go_end0
  refine ⟨rfl, ?_, ((Kp.of_below HB.out).setCell (.inl (by simp)) _)⟩
  unfold RB
  rw [HEC.out]
  exact (Blk.set_ H1.out 4 (.int .i64 ((a : Int) + 1)))
set_option maxHeartbeats 4000000 in
theorem rbnext_1 {w : World} {g : Nat} {k b m : Nat} {f t d l : Int} (h : RB w g ⟨k, f, t, b, m, 1, d⟩ l) (ho : Bu.ok ⟨k, f, t, b, m, 1, d⟩) (l0 : 0 ≤ l) (l1 : l ≤ 65535) (hl : cntP l = (b : Int)) (x : m ≠ b) : Calls Tryd.prog 21 #[.pointer (some ⟨g, 0, none⟩)] w fun e w' => e = .returned (.tuple #[.int .u8 3, .int .u16 (mvF k f (m : Int))]) ∧ Below w.heap.size w w' := by
  have hD := rbdone_any h ho l0 l1 hl
  rw [decide_eq_false x] at hD
  have b1 := ho.b1
  have m1 := ho.m1
  dsimp only at b1 m1
  have h0 : RB w g ⟨k, f, t, b, m, 1, d⟩ l := h
  obtain ⟨a, ha⟩ : ∃ a, 6 * m + 1 = a := ⟨_, rfl⟩
  have am : (a : Int) % 6 = 1 := by omega
  have amt : (a : Int).tmod 6 = 1 := by rw [Int.tmod_eq_emod_of_nonneg (by omega)]; exact am
  have aq : (a : Int) / 6 = (m : Int) := by omega
  have aqt : (a : Int).tdiv 6 = (m : Int) := by rw [Int.tdiv_eq_ediv_of_nonneg (by omega)]; exact aq
  have a1 : (a : Int) + 1 ≤ 500000 := by omega
  have mb : (m : Int) ≤ 65536 := by omega
  have HA := Lib.hid ha
  have H := Lib.hid h0
  have HD := Lib.hid hD
  have hM := fun W => rvat_any k ho.k5 f t (m : Int) ho.f0 ho.f1 ho.t0 ho.t1 (by omega) (by omega) W
  have HM := Lib.hid hM
  clear h h0 ho hD hM ha b1 m1 l0 l1 hl x
  go_enter Tryd.func21, Tryd.ntmps21
  go_wp2_with fail
  refine HD.out.mono ?_
  rintro e w1 ⟨rfl, hb⟩
  have h1 := H.out.keep hb
  have HB := Lib.hid hb
  have c0 : w1.cell? ⟨g, 0, none⟩ = some (.int .u8 (k : Int)) := Blk.cell h1 0
  have c1 : w1.cell? ⟨g, 1, none⟩ = some (.int .u16 f) := Blk.cell h1 1
  have c2 : w1.cell? ⟨g, 2, none⟩ = some (.int .u16 t) := Blk.cell h1 2
  have c4 : w1.cell? ⟨g, 4, none⟩ = some (.int .i64 (a : Int)) := by rw [← HA.out]; exact Blk.cell h1 4
  clear hb h1
  go_wp2_with fail
  go_quiet ((go_at_call 26; exact Calls.quiet_of_same ((HM.out _).mono fun _ _ h => ⟨h.1, h.2.symm⟩)))
  go_wp2
  go_ret2
  exact ⟨by first | rfl | simp, below_drewN HB.out _⟩
set_option maxHeartbeats 4000000 in
theorem rbstep_1 {w : World} {g : Nat} {k b m : Nat} {f t d l : Int} (h : RB w g ⟨k, f, t, b, m, 1, d⟩ l) (ho : Bu.ok ⟨k, f, t, b, m, 1, d⟩) (l0 : 0 ≤ l) (l1 : l ≤ 65535) (hl : cntP l = (b : Int)) (x : m ≠ b) (v : Int) : Calls Tryd.prog 9 #[.pointer (some ⟨g, 0, none⟩), .int .u8 v] w fun e w' => e = .returned (.tuple #[]) ∧ RB w' g ⟨k, f, t, b, m, 2, v⟩ l ∧ Kp [g] w w' := by
  have hD := rbdone_any h ho l0 l1 hl
  rw [decide_eq_false x] at hD
  have b1 := ho.b1
  have m1 := ho.m1
  dsimp only at b1 m1
  have h0 : RB w g ⟨k, f, t, b, m, 1, d⟩ l := h
  obtain ⟨a, ha⟩ : ∃ a, 6 * m + 1 = a := ⟨_, rfl⟩
  have am : (a : Int) % 6 = 1 := by omega
  have amt : (a : Int).tmod 6 = 1 := by rw [Int.tmod_eq_emod_of_nonneg (by omega)]; exact am
  have aq : (a : Int) / 6 = (m : Int) := by omega
  have aqt : (a : Int).tdiv 6 = (m : Int) := by rw [Int.tdiv_eq_ediv_of_nonneg (by omega)]; exact aq
  have a1 : (a : Int) + 1 ≤ 500000 := by omega
  have mb : (m : Int) ≤ 65536 := by omega
  have HA := Lib.hid ha
  have H := Lib.hid h0
  have HD := Lib.hid hD
  have ec : rbC ⟨k, f, t, b, m, 2, v⟩ l = #[.int .u8 (k : Int), .int .u16 f, .int .u16 t, .int .u16 l, .int .i64 ((a : Int) + 1), .int .u8 v] := by
    unfold rbC
    dsimp only
    rw [← ha]
    rw [show ((6 * m + 2 : Nat) : Int) = ((6 * m + 1 : Nat) : Int) + 1 by omega]
  have HEC := Lib.hid ec
  clear h h0 ho hD ha b1 m1 l0 l1 hl x ec
  go_enter Tryd.func9, Tryd.ntmps9
  go_wp2_with fail
  refine HD.out.mono ?_
  rintro e w1 ⟨rfl, hb⟩
  have h1 := H.out.keep hb
  have HB := Lib.hid hb
  have c4 : w1.cell? ⟨g, 4, none⟩ = some (.int .i64 (a : Int)) := by rw [← HA.out]; exact Blk.cell h1 4
  have c5 : w1.cell? ⟨g, 5, none⟩ = some (.int .u8 d) := Blk.cell h1 5
  have f4 := Blk.frozen h1 4
  have f5 := Blk.frozen h1 5
  have H1 := Lib.hid h1
  clear hb h1
  go_wp2
  go_end0
  refine ⟨rfl, ?_, (((Kp.of_below HB.out).setCell (.inl (by simp)) _).setCell (.inl (by simp)) _)⟩
  unfold RB
  rw [HEC.out]
  exact (Blk.set_ (Blk.set_ H1.out 5 (.int .u8 v)) 4 (.int .i64 ((a : Int) + 1)))
set_option maxHeartbeats 4000000 in
theorem rbnext_2 {w : World} {g : Nat} {k b m : Nat} {f t d l : Int} (h : RB w g ⟨k, f, t, b, m, 2, d⟩ l) (ho : Bu.ok ⟨k, f, t, b, m, 2, d⟩) (l0 : 0 ≤ l) (l1 : l ≤ 65535) (hl : cntP l = (b : Int)) (x : m ≠ b) : Calls Tryd.prog 21 #[.pointer (some ⟨g, 0, none⟩)] w fun e w' => e = .returned (.tuple #[.int .u8 2, .int .u16 0]) ∧ Below w.heap.size w w' := by
  have hD := rbdone_any h ho l0 l1 hl
  rw [decide_eq_false x] at hD
  have b1 := ho.b1
  have m1 := ho.m1
  dsimp only at b1 m1
  have h0 : RB w g ⟨k, f, t, b, m, 2, d⟩ l := h
  obtain ⟨a, ha⟩ : ∃ a, 6 * m + 2 = a := ⟨_, rfl⟩
  have am : (a : Int) % 6 = 2 := by omega
  have amt : (a : Int).tmod 6 = 2 := by rw [Int.tmod_eq_emod_of_nonneg (by omega)]; exact am
  have aq : (a : Int) / 6 = (m : Int) := by omega
  have aqt : (a : Int).tdiv 6 = (m : Int) := by rw [Int.tdiv_eq_ediv_of_nonneg (by omega)]; exact aq
  have a1 : (a : Int) + 1 ≤ 500000 := by omega
  have mb : (m : Int) ≤ 65536 := by omega
  have HA := Lib.hid ha
  have H := Lib.hid h0
  have HD := Lib.hid hD
  have hM := fun W => rvat_any k ho.k5 f t (m : Int) ho.f0 ho.f1 ho.t0 ho.t1 (by omega) (by omega) W
  have HM := Lib.hid hM
  clear h h0 ho hD hM ha b1 m1 l0 l1 hl x
  go_enter Tryd.func21, Tryd.ntmps21
  go_wp2_with fail
  refine HD.out.mono ?_
  rintro e w1 ⟨rfl, hb⟩
  have h1 := H.out.keep hb
  have HB := Lib.hid hb
  have c0 : w1.cell? ⟨g, 0, none⟩ = some (.int .u8 (k : Int)) := Blk.cell h1 0
  have c1 : w1.cell? ⟨g, 1, none⟩ = some (.int .u16 f) := Blk.cell h1 1
  have c2 : w1.cell? ⟨g, 2, none⟩ = some (.int .u16 t) := Blk.cell h1 2
  have c4 : w1.cell? ⟨g, 4, none⟩ = some (.int .i64 (a : Int)) := by rw [← HA.out]; exact Blk.cell h1 4
  clear hb h1
  go_wp2_with fail
  go_quiet ((go_at_call 26; exact Calls.quiet_of_same ((HM.out _).mono fun _ _ h => ⟨h.1, h.2.symm⟩)))
  go_wp2
  go_ret2
  exact ⟨by first | rfl | simp, below_drewN HB.out _⟩
set_option maxHeartbeats 4000000 in
theorem rbstep_2 {w : World} {g : Nat} {k b m : Nat} {f t d l : Int} (h : RB w g ⟨k, f, t, b, m, 2, d⟩ l) (ho : Bu.ok ⟨k, f, t, b, m, 2, d⟩) (l0 : 0 ≤ l) (l1 : l ≤ 65535) (hl : cntP l = (b : Int)) (x : m ≠ b) (v : Int) : Calls Tryd.prog 9 #[.pointer (some ⟨g, 0, none⟩), .int .u8 v] w fun e w' => e = .returned (.tuple #[]) ∧ RB w' g ⟨k, f, t, b, m, 3, d⟩ l ∧ Kp [g] w w' := by
  have hD := rbdone_any h ho l0 l1 hl
  rw [decide_eq_false x] at hD
  have b1 := ho.b1
  have m1 := ho.m1
  dsimp only at b1 m1
  have h0 : RB w g ⟨k, f, t, b, m, 2, d⟩ l := h
  obtain ⟨a, ha⟩ : ∃ a, 6 * m + 2 = a := ⟨_, rfl⟩
  have am : (a : Int) % 6 = 2 := by omega
  have amt : (a : Int).tmod 6 = 2 := by rw [Int.tmod_eq_emod_of_nonneg (by omega)]; exact am
  have aq : (a : Int) / 6 = (m : Int) := by omega
  have aqt : (a : Int).tdiv 6 = (m : Int) := by rw [Int.tdiv_eq_ediv_of_nonneg (by omega)]; exact aq
  have a1 : (a : Int) + 1 ≤ 500000 := by omega
  have mb : (m : Int) ≤ 65536 := by omega
  have HA := Lib.hid ha
  have H := Lib.hid h0
  have HD := Lib.hid hD
  have ec : rbC ⟨k, f, t, b, m, 3, d⟩ l = #[.int .u8 (k : Int), .int .u16 f, .int .u16 t, .int .u16 l, .int .i64 ((a : Int) + 1), .int .u8 d] := by
    unfold rbC
    dsimp only
    rw [← ha]
    rw [show ((6 * m + 3 : Nat) : Int) = ((6 * m + 2 : Nat) : Int) + 1 by omega]
  have HEC := Lib.hid ec
  clear h h0 ho hD ha b1 m1 l0 l1 hl x ec
  go_enter Tryd.func9, Tryd.ntmps9
  go_wp2_with fail
  refine HD.out.mono ?_
  rintro e w1 ⟨rfl, hb⟩
  have h1 := H.out.keep hb
  have HB := Lib.hid hb
  have c4 : w1.cell? ⟨g, 4, none⟩ = some (.int .i64 (a : Int)) := by rw [← HA.out]; exact Blk.cell h1 4
  have c5 : w1.cell? ⟨g, 5, none⟩ = some (.int .u8 d) := Blk.cell h1 5
  have f4 := Blk.frozen h1 4
  have f5 := Blk.frozen h1 5
  have H1 := Lib.hid h1
  clear hb h1
  go_wp2
  go_end0
  refine ⟨rfl, ?_, ((Kp.of_below HB.out).setCell (.inl (by simp)) _)⟩
  unfold RB
  rw [HEC.out]
  exact (Blk.set_ H1.out 4 (.int .i64 ((a : Int) + 1)))
set_option maxHeartbeats 4000000 in
theorem rbnext_3 {w : World} {g : Nat} {k b m : Nat} {f t d l : Int} (h : RB w g ⟨k, f, t, b, m, 3, d⟩ l) (ho : Bu.ok ⟨k, f, t, b, m, 3, d⟩) (l0 : 0 ≤ l) (l1 : l ≤ 65535) (hl : cntP l = (b : Int)) (x : m ≠ b) : Calls Tryd.prog 21 #[.pointer (some ⟨g, 0, none⟩)] w fun e w' => e = .returned (.tuple #[.int .u8 2, .int .u16 0]) ∧ Below w.heap.size w w' := by
  have hD := rbdone_any h ho l0 l1 hl
  rw [decide_eq_false x] at hD
  have b1 := ho.b1
  have m1 := ho.m1
  dsimp only at b1 m1
  have h0 : RB w g ⟨k, f, t, b, m, 3, d⟩ l := h
  obtain ⟨a, ha⟩ : ∃ a, 6 * m + 3 = a := ⟨_, rfl⟩
  have am : (a : Int) % 6 = 3 := by omega
  have amt : (a : Int).tmod 6 = 3 := by rw [Int.tmod_eq_emod_of_nonneg (by omega)]; exact am
  have aq : (a : Int) / 6 = (m : Int) := by omega
  have aqt : (a : Int).tdiv 6 = (m : Int) := by rw [Int.tdiv_eq_ediv_of_nonneg (by omega)]; exact aq
  have a1 : (a : Int) + 1 ≤ 500000 := by omega
  have mb : (m : Int) ≤ 65536 := by omega
  have HA := Lib.hid ha
  have H := Lib.hid h0
  have HD := Lib.hid hD
  have hM := fun W => rvat_any k ho.k5 f t (m : Int) ho.f0 ho.f1 ho.t0 ho.t1 (by omega) (by omega) W
  have HM := Lib.hid hM
  clear h h0 ho hD hM ha b1 m1 l0 l1 hl x
  go_enter Tryd.func21, Tryd.ntmps21
  go_wp2_with fail
  refine HD.out.mono ?_
  rintro e w1 ⟨rfl, hb⟩
  have h1 := H.out.keep hb
  have HB := Lib.hid hb
  have c0 : w1.cell? ⟨g, 0, none⟩ = some (.int .u8 (k : Int)) := Blk.cell h1 0
  have c1 : w1.cell? ⟨g, 1, none⟩ = some (.int .u16 f) := Blk.cell h1 1
  have c2 : w1.cell? ⟨g, 2, none⟩ = some (.int .u16 t) := Blk.cell h1 2
  have c4 : w1.cell? ⟨g, 4, none⟩ = some (.int .i64 (a : Int)) := by rw [← HA.out]; exact Blk.cell h1 4
  clear hb h1
  go_wp2_with fail
  go_quiet ((go_at_call 26; exact Calls.quiet_of_same ((HM.out _).mono fun _ _ h => ⟨h.1, h.2.symm⟩)))
  go_wp2
  go_ret2
  exact ⟨by first | rfl | simp, below_drewN HB.out _⟩
set_option maxHeartbeats 4000000 in
theorem rbstep_3 {w : World} {g : Nat} {k b m : Nat} {f t d l : Int} (h : RB w g ⟨k, f, t, b, m, 3, d⟩ l) (ho : Bu.ok ⟨k, f, t, b, m, 3, d⟩) (l0 : 0 ≤ l) (l1 : l ≤ 65535) (hl : cntP l = (b : Int)) (x : m ≠ b) (v : Int) : Calls Tryd.prog 9 #[.pointer (some ⟨g, 0, none⟩), .int .u8 v] w fun e w' => e = .returned (.tuple #[]) ∧ RB w' g ⟨k, f, t, b, m, 4, d⟩ l ∧ Kp [g] w w' := by
  have hD := rbdone_any h ho l0 l1 hl
  rw [decide_eq_false x] at hD
  have b1 := ho.b1
  have m1 := ho.m1
  dsimp only at b1 m1
  have h0 : RB w g ⟨k, f, t, b, m, 3, d⟩ l := h
  obtain ⟨a, ha⟩ : ∃ a, 6 * m + 3 = a := ⟨_, rfl⟩
  have am : (a : Int) % 6 = 3 := by omega
  have amt : (a : Int).tmod 6 = 3 := by rw [Int.tmod_eq_emod_of_nonneg (by omega)]; exact am
  have aq : (a : Int) / 6 = (m : Int) := by omega
  have aqt : (a : Int).tdiv 6 = (m : Int) := by rw [Int.tdiv_eq_ediv_of_nonneg (by omega)]; exact aq
  have a1 : (a : Int) + 1 ≤ 500000 := by omega
  have mb : (m : Int) ≤ 65536 := by omega
  have HA := Lib.hid ha
  have H := Lib.hid h0
  have HD := Lib.hid hD
  have ec : rbC ⟨k, f, t, b, m, 4, d⟩ l = #[.int .u8 (k : Int), .int .u16 f, .int .u16 t, .int .u16 l, .int .i64 ((a : Int) + 1), .int .u8 d] := by
    unfold rbC
    dsimp only
    rw [← ha]
    rw [show ((6 * m + 4 : Nat) : Int) = ((6 * m + 3 : Nat) : Int) + 1 by omega]
  have HEC := Lib.hid ec
  clear h h0 ho hD ha b1 m1 l0 l1 hl x ec
  go_enter Tryd.func9, Tryd.ntmps9
  go_wp2_with fail
  refine HD.out.mono ?_
  rintro e w1 ⟨rfl, hb⟩
  have h1 := H.out.keep hb
  have HB := Lib.hid hb
  have c4 : w1.cell? ⟨g, 4, none⟩ = some (.int .i64 (a : Int)) := by rw [← HA.out]; exact Blk.cell h1 4
  have c5 : w1.cell? ⟨g, 5, none⟩ = some (.int .u8 d) := Blk.cell h1 5
  have f4 := Blk.frozen h1 4
  have f5 := Blk.frozen h1 5
  have H1 := Lib.hid h1
  clear hb h1
  go_wp2
  go_end0
  refine ⟨rfl, ?_, ((Kp.of_below HB.out).setCell (.inl (by simp)) _)⟩
  unfold RB
  rw [HEC.out]
  exact (Blk.set_ H1.out 4 (.int .i64 ((a : Int) + 1)))
set_option maxHeartbeats 4000000 in
theorem rbnext_4 {w : World} {g : Nat} {k b m : Nat} {f t d l : Int} (h : RB w g ⟨k, f, t, b, m, 4, d⟩ l) (ho : Bu.ok ⟨k, f, t, b, m, 4, d⟩) (l0 : 0 ≤ l) (l1 : l ≤ 65535) (hl : cntP l = (b : Int)) (x : m ≠ b) : Calls Tryd.prog 21 #[.pointer (some ⟨g, 0, none⟩)] w fun e w' => e = .returned (.tuple #[.int .u8 4, .int .u16 (mvT k t (m : Int))]) ∧ Below w.heap.size w w' := by
  have hD := rbdone_any h ho l0 l1 hl
  rw [decide_eq_false x] at hD
  have b1 := ho.b1
  have m1 := ho.m1
  dsimp only at b1 m1
  have h0 : RB w g ⟨k, f, t, b, m, 4, d⟩ l := h
  obtain ⟨a, ha⟩ : ∃ a, 6 * m + 4 = a := ⟨_, rfl⟩
  have am : (a : Int) % 6 = 4 := by omega
  have amt : (a : Int).tmod 6 = 4 := by rw [Int.tmod_eq_emod_of_nonneg (by omega)]; exact am
  have aq : (a : Int) / 6 = (m : Int) := by omega
  have aqt : (a : Int).tdiv 6 = (m : Int) := by rw [Int.tdiv_eq_ediv_of_nonneg (by omega)]; exact aq
  have a1 : (a : Int) + 1 ≤ 500000 := by omega
  have mb : (m : Int) ≤ 65536 := by omega
  have HA := Lib.hid ha
  have H := Lib.hid h0
  have HD := Lib.hid hD
  have hM := fun W => rvat_any k ho.k5 f t (m : Int) ho.f0 ho.f1 ho.t0 ho.t1 (by omega) (by omega) W
  have HM := Lib.hid hM
  clear h h0 ho hD hM ha b1 m1 l0 l1 hl x
  go_enter Tryd.func21, Tryd.ntmps21
  go_wp2_with fail
  refine HD.out.mono ?_
  rintro e w1 ⟨rfl, hb⟩
  have h1 := H.out.keep hb
  have HB := Lib.hid hb
  have c0 : w1.cell? ⟨g, 0, none⟩ = some (.int .u8 (k : Int)) := Blk.cell h1 0
  have c1 : w1.cell? ⟨g, 1, none⟩ = some (.int .u16 f) := Blk.cell h1 1
  have c2 : w1.cell? ⟨g, 2, none⟩ = some (.int .u16 t) := Blk.cell h1 2
  have c4 : w1.cell? ⟨g, 4, none⟩ = some (.int .i64 (a : Int)) := by rw [← HA.out]; exact Blk.cell h1 4
  clear hb h1
  go_wp2_with fail
  go_quiet ((go_at_call 26; exact Calls.quiet_of_same ((HM.out _).mono fun _ _ h => ⟨h.1, h.2.symm⟩)))
  go_wp2
  go_ret2
  exact ⟨by first | rfl | simp, below_drewN HB.out _⟩
set_option maxHeartbeats 4000000 in
theorem rbstep_4 {w : World} {g : Nat} {k b m : Nat} {f t d l : Int} (h : RB w g ⟨k, f, t, b, m, 4, d⟩ l) (ho : Bu.ok ⟨k, f, t, b, m, 4, d⟩) (l0 : 0 ≤ l) (l1 : l ≤ 65535) (hl : cntP l = (b : Int)) (x : m ≠ b) (v : Int) : Calls Tryd.prog 9 #[.pointer (some ⟨g, 0, none⟩), .int .u8 v] w fun e w' => e = .returned (.tuple #[]) ∧ RB w' g ⟨k, f, t, b, m, 5, d⟩ l ∧ Kp [g] w w' := by
  have hD := rbdone_any h ho l0 l1 hl
  rw [decide_eq_false x] at hD
  have b1 := ho.b1
  have m1 := ho.m1
  dsimp only at b1 m1
  have h0 : RB w g ⟨k, f, t, b, m, 4, d⟩ l := h
  obtain ⟨a, ha⟩ : ∃ a, 6 * m + 4 = a := ⟨_, rfl⟩
  have am : (a : Int) % 6 = 4 := by omega
  have amt : (a : Int).tmod 6 = 4 := by rw [Int.tmod_eq_emod_of_nonneg (by omega)]; exact am
  have aq : (a : Int) / 6 = (m : Int) := by omega
  have aqt : (a : Int).tdiv 6 = (m : Int) := by rw [Int.tdiv_eq_ediv_of_nonneg (by omega)]; exact aq
  have a1 : (a : Int) + 1 ≤ 500000 := by omega
  have mb : (m : Int) ≤ 65536 := by omega
  have HA := Lib.hid ha
  have H := Lib.hid h0
  have HD := Lib.hid hD
  have ec : rbC ⟨k, f, t, b, m, 5, d⟩ l = #[.int .u8 (k : Int), .int .u16 f, .int .u16 t, .int .u16 l, .int .i64 ((a : Int) + 1), .int .u8 d] := by
    unfold rbC
    dsimp only
    rw [← ha]
    rw [show ((6 * m + 5 : Nat) : Int) = ((6 * m + 4 : Nat) : Int) + 1 by omega]
  have HEC := Lib.hid ec
  clear h h0 ho hD ha b1 m1 l0 l1 hl x ec
  go_enter Tryd.func9, Tryd.ntmps9
  go_wp2_with fail
  refine HD.out.mono ?_
  rintro e w1 ⟨rfl, hb⟩
  have h1 := H.out.keep hb
  have HB := Lib.hid hb
  have c4 : w1.cell? ⟨g, 4, none⟩ = some (.int .i64 (a : Int)) := by rw [← HA.out]; exact Blk.cell h1 4
  have c5 : w1.cell? ⟨g, 5, none⟩ = some (.int .u8 d) := Blk.cell h1 5
  have f4 := Blk.frozen h1 4
  have f5 := Blk.frozen h1 5
  have H1 := Lib.hid h1
  clear hb h1
  go_wp2
  go_end0
  refine ⟨rfl, ?_, ((Kp.of_below HB.out).setCell (.inl (by simp)) _)⟩
  unfold RB
  rw [HEC.out]
  exact (Blk.set_ H1.out 4 (.int .i64 ((a : Int) + 1)))
set_option maxHeartbeats 4000000 in
theorem rbnext_5 {w : World} {g : Nat} {k b m : Nat} {f t d l : Int} (h : RB w g ⟨k, f, t, b, m, 5, d⟩ l) (ho : Bu.ok ⟨k, f, t, b, m, 5, d⟩) (l0 : 0 ≤ l) (l1 : l ≤ 65535) (hl : cntP l = (b : Int)) (x : m ≠ b) : Calls Tryd.prog 21 #[.pointer (some ⟨g, 0, none⟩)] w fun e w' => e = .returned (.tuple #[.int .u8 2, .int .u16 0]) ∧ Below w.heap.size w w' := by
  have hD := rbdone_any h ho l0 l1 hl
  rw [decide_eq_false x] at hD
  have b1 := ho.b1
  have m1 := ho.m1
  dsimp only at b1 m1
  have h0 : RB w g ⟨k, f, t, b, m, 5, d⟩ l := h
  obtain ⟨a, ha⟩ : ∃ a, 6 * m + 5 = a := ⟨_, rfl⟩
  have am : (a : Int) % 6 = 5 := by omega
  have amt : (a : Int).tmod 6 = 5 := by rw [Int.tmod_eq_emod_of_nonneg (by omega)]; exact am
  have aq : (a : Int) / 6 = (m : Int) := by omega
  have aqt : (a : Int).tdiv 6 = (m : Int) := by rw [Int.tdiv_eq_ediv_of_nonneg (by omega)]; exact aq
  have a1 : (a : Int) + 1 ≤ 500000 := by omega
  have mb : (m : Int) ≤ 65536 := by omega
  have HA := Lib.hid ha
  have H := Lib.hid h0
  have HD := Lib.hid hD
  have hM := fun W => rvat_any k ho.k5 f t (m : Int) ho.f0 ho.f1 ho.t0 ho.t1 (by omega) (by omega) W
  have HM := Lib.hid hM
  clear h h0 ho hD hM ha b1 m1 l0 l1 hl x
  go_enter Tryd.func21, Tryd.ntmps21
  go_wp2_with fail
  refine HD.out.mono ?_
  rintro e w1 ⟨rfl, hb⟩
  have h1 := H.out.keep hb
  have HB := Lib.hid hb
  have c0 : w1.cell? ⟨g, 0, none⟩ = some (.int .u8 (k : Int)) := Blk.cell h1 0
  have c1 : w1.cell? ⟨g, 1, none⟩ = some (.int .u16 f) := Blk.cell h1 1
  have c2 : w1.cell? ⟨g, 2, none⟩ = some (.int .u16 t) := Blk.cell h1 2
  have c4 : w1.cell? ⟨g, 4, none⟩ = some (.int .i64 (a : Int)) := by rw [← HA.out]; exact Blk.cell h1 4
  clear hb h1
  go_wp2_with fail
  go_quiet ((go_at_call 26; exact Calls.quiet_of_same ((HM.out _).mono fun _ _ h => ⟨h.1, h.2.symm⟩)))
  go_wp2
  go_ret2
  exact ⟨by first | rfl | simp, below_drewN HB.out _⟩
set_option maxHeartbeats 4000000 in
theorem rbstep_5 {w : World} {g : Nat} {k b m : Nat} {f t d l : Int} (h : RB w g ⟨k, f, t, b, m, 5, d⟩ l) (ho : Bu.ok ⟨k, f, t, b, m, 5, d⟩) (l0 : 0 ≤ l) (l1 : l ≤ 65535) (hl : cntP l = (b : Int)) (x : m ≠ b) (v : Int) : Calls Tryd.prog 9 #[.pointer (some ⟨g, 0, none⟩), .int .u8 v] w fun e w' => e = .returned (.tuple #[]) ∧ RB w' g ⟨k, f, t, b, m + 1, 0, d⟩ l ∧ Kp [g] w w' := by
  have hD := rbdone_any h ho l0 l1 hl
  rw [decide_eq_false x] at hD
  have b1 := ho.b1
  have m1 := ho.m1
  dsimp only at b1 m1
  have h0 : RB w g ⟨k, f, t, b, m, 5, d⟩ l := h
  obtain ⟨a, ha⟩ : ∃ a, 6 * m + 5 = a := ⟨_, rfl⟩
  have am : (a : Int) % 6 = 5 := by omega
  have amt : (a : Int).tmod 6 = 5 := by rw [Int.tmod_eq_emod_of_nonneg (by omega)]; exact am
  have aq : (a : Int) / 6 = (m : Int) := by omega
  have aqt : (a : Int).tdiv 6 = (m : Int) := by rw [Int.tdiv_eq_ediv_of_nonneg (by omega)]; exact aq
  have a1 : (a : Int) + 1 ≤ 500000 := by omega
  have mb : (m : Int) ≤ 65536 := by omega
  have HA := Lib.hid ha
  have H := Lib.hid h0
  have HD := Lib.hid hD
  have ec : rbC ⟨k, f, t, b, m + 1, 0, d⟩ l = #[.int .u8 (k : Int), .int .u16 f, .int .u16 t, .int .u16 l, .int .i64 ((a : Int) + 1), .int .u8 d] := by
    unfold rbC
    dsimp only
    rw [← ha]
    rw [show ((6 * (m + 1) + 0 : Nat) : Int) = ((6 * m + 5 : Nat) : Int) + 1 by omega]
  have HEC := Lib.hid ec
  clear h h0 ho hD ha b1 m1 l0 l1 hl x ec
  go_enter Tryd.func9, Tryd.ntmps9
  go_wp2_with fail
  refine HD.out.mono ?_
  rintro e w1 ⟨rfl, hb⟩
  have h1 := H.out.keep hb
  have HB := Lib.hid hb
  have c4 : w1.cell? ⟨g, 4, none⟩ = some (.int .i64 (a : Int)) := by rw [← HA.out]; exact Blk.cell h1 4
  have c5 : w1.cell? ⟨g, 5, none⟩ = some (.int .u8 d) := Blk.cell h1 5
  have f4 := Blk.frozen h1 4
  have f5 := Blk.frozen h1 5
  have H1 := Lib.hid h1
  clear hb h1
  go_wp2
  go_end0
  refine ⟨rfl, ?_, ((Kp.of_below HB.out).setCell (.inl (by simp)) _)⟩
  unfold RB
  rw [HEC.out]
  exact (Blk.set_ H1.out 4 (.int .i64 ((a : Int) + 1)))
section
variable {w : World} {g : Nat} {s : Bu} {l : Int}
set_option maxHeartbeats 4000000 in
theorem rbnext_any (h : RB w g s l) (ho : s.ok) (l0 : 0 ≤ l) (l1 : l ≤ 65535) (hl : cntP l = (s.b : Int)) : Calls Tryd.prog 21 #[.pointer (some ⟨g, 0, none⟩)] w fun e w' => e = .returned (.tuple #[.int .u8 s.kd, .int .u16 s.pl]) ∧ Below w.heap.size w w' := by
  by_cases x : s.m = s.b
  · have e1 : s.kd = 2 := if_pos x
    have e2 : s.pl = 0 := if_pos x
    rw [e1, e2]
    have hD := rbdone_any h ho l0 l1 hl
    rw [decide_eq_true x] at hD
    have HD := Lib.hid hD
    clear h ho hD e1 e2 x l0 l1 hl
    go_enter Tryd.func21, Tryd.ntmps21
    go_wp2_with fail
    refine HD.out.mono ?_
    rintro e w1 ⟨rfl, hb⟩
    have HB := Lib.hid hb
    clear hb
    go_wp2
    go_ret2
    exact ⟨rfl, HB.out⟩
  · obtain ⟨k, f, t, b, m, p, d⟩ := s
    have hp : p = 0 ∨ p = 1 ∨ p = 2 ∨ p = 3 ∨ p = 4 ∨ p = 5 := by have := ho.p6; dsimp only at this; omega
    have e1 : Bu.kd ⟨k, f, t, b, m, p, d⟩ = if p = 1 then 3 else if p = 4 then 4 else 2 := if_neg x
    have e2 : Bu.pl ⟨k, f, t, b, m, p, d⟩ = if p = 1 then mvF k f (m : Int) else if p = 4 then mvT k t (m : Int) else 0 := if_neg x
    rw [e1, e2]
    rcases hp with rfl | rfl | rfl | rfl | rfl | rfl
    · exact rbnext_0 h ho l0 l1 hl x
    · exact rbnext_1 h ho l0 l1 hl x
    · exact rbnext_2 h ho l0 l1 hl x
    · exact rbnext_3 h ho l0 l1 hl x
    · exact rbnext_4 h ho l0 l1 hl x
    · exact rbnext_5 h ho l0 l1 hl x
set_option maxHeartbeats 4000000 in
theorem rbstep_any (h : RB w g s l) (ho : s.ok) (l0 : 0 ≤ l) (l1 : l ≤ 65535) (hl : cntP l = (s.b : Int)) (v : Int) : Calls Tryd.prog 9 #[.pointer (some ⟨g, 0, none⟩), .int .u8 v] w fun e w' => e = .returned (.tuple #[]) ∧ RB w' g (s.go v) l ∧ Kp [g] w w' := by
  by_cases x : s.m = s.b
  · have e : s.go v = s := if_pos x
    rw [e]
    have hD := rbdone_any h ho l0 l1 hl
    rw [decide_eq_true x] at hD
    have H := Lib.hid h
    have HD := Lib.hid hD
    clear h ho hD e x l0 l1 hl
    go_enter Tryd.func9, Tryd.ntmps9
    go_wp2_with fail
    refine HD.out.mono ?_
    rintro e w1 ⟨rfl, hb⟩
    have HB := Lib.hid hb
    clear hb
    go_wp2_with fail
    refine bodyPost_ret (results_none rfl _ _ _) rfl ?_
    exact ⟨rfl, H.out.keep HB.out, Kp.of_below HB.out⟩
  · obtain ⟨k, f, t, b, m, p, d⟩ := s
    have hp : p = 0 ∨ p = 1 ∨ p = 2 ∨ p = 3 ∨ p = 4 ∨ p = 5 := by have := ho.p6; dsimp only at this; omega
    have e : (⟨k, f, t, b, m, p, d⟩ : Bu).go v = if p = 1 then ⟨k, f, t, b, m, 2, v⟩ else if p = 5 then ⟨k, f, t, b, m + 1, 0, d⟩ else ⟨k, f, t, b, m, p + 1, d⟩ := if_neg x
    rw [e]
    rcases hp with rfl | rfl | rfl | rfl | rfl | rfl
    · exact rbstep_0 h ho l0 l1 hl x v
    · exact rbstep_1 h ho l0 l1 hl x v
    · exact rbstep_2 h ho l0 l1 hl x v
    · exact rbstep_3 h ho l0 l1 hl x v
    · exact rbstep_4 h ho l0 l1 hl x v
    · exact rbstep_5 h ho l0 l1 hl x v
end
end Go.Proofs.YtndhkdcdhpfajaaDoor
