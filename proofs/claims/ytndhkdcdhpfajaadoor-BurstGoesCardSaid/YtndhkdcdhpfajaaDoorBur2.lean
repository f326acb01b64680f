/-
  Blocks on their way: a cycle goes by; New.
-/
import Derived.Test.YtndhkdcdhpfajaaDoorBur1
namespace Go.Proofs.YtndhkdcdhpfajaaDoor
open Go.RowKit
set_option linter.unusedVariables false
set_option linter.unusedSimpArgs false
set_option maxRecDepth 100000
set_option maxHeartbeats 4000000 in
theorem bstep_0 {w : World} {g : Nat} {k b m : Nat} {f t d : Int} (h : BuB w g ⟨k, f, t, b, m, 0, d⟩) (ho : Bu.ok ⟨k, f, t, b, m, 0, d⟩) (x : m ≠ b) (v : Int) : Calls Tryd.prog 8 #[.pointer (some ⟨g, 0, none⟩), .int .u8 v] w fun e w' => e = .returned (.tuple #[]) ∧ BuB w' g ⟨k, f, t, b, m, 1, d⟩ ∧ Kp [g] w w' := by
  have hD := bdone_any h ho
  rw [decide_eq_false x] at hD
  have b1 := ho.b1
  have m1 := ho.m1
  dsimp only at b1 m1
  have q1 : (m : Int) + 1 ≤ 65536 := by omega
  have H := Lib.hid h
  have HD := Lib.hid hD
  clear h ho hD b1 m1
  go_enter Tryd.func8, Tryd.ntmps8
  go_wp2_with fail
  refine HD.out.mono ?_
  rintro e w1 ⟨rfl, hb⟩
  have h1 := H.out.keep hb
  have HB := Lib.hid hb
  have c4 : w1.cell? ⟨g, 4, none⟩ = some (.int .i64 (m : Int)) := Blk.cell h1 4
  have c5 : w1.cell? ⟨g, 5, none⟩ = some (.int .i64 0) := Blk.cell h1 5
  have c6 : w1.cell? ⟨g, 6, none⟩ = some (.int .u8 d) := Blk.cell h1 6
  have f4 := Blk.frozen h1 4
  have f5 := Blk.frozen h1 5
  have f6 := Blk.frozen h1 6
  have H1 := Lib.hid h1
  clear hb h1
  go_wp2
  go_end0
  exact ⟨rfl, (Blk.set_ H1.out 5 (.int .i64 1)), ((Kp.of_below HB.out).setCell (.inl (by simp)) _)⟩
set_option maxHeartbeats 4000000 in
theorem bstep_1 {w : World} {g : Nat} {k b m : Nat} {f t d : Int} (h : BuB w g ⟨k, f, t, b, m, 1, d⟩) (ho : Bu.ok ⟨k, f, t, b, m, 1, d⟩) (x : m ≠ b) (v : Int) : Calls Tryd.prog 8 #[.pointer (some ⟨g, 0, none⟩), .int .u8 v] w fun e w' => e = .returned (.tuple #[]) ∧ BuB w' g ⟨k, f, t, b, m, 2, v⟩ ∧ Kp [g] w w' := by
  have hD := bdone_any h ho
  rw [decide_eq_false x] at hD
  have b1 := ho.b1
  have m1 := ho.m1
  dsimp only at b1 m1
  have q1 : (m : Int) + 1 ≤ 65536 := by omega
  have H := Lib.hid h
  have HD := Lib.hid hD
  clear h ho hD b1 m1
  go_enter Tryd.func8, Tryd.ntmps8
  go_wp2_with fail
  refine HD.out.mono ?_
  rintro e w1 ⟨rfl, hb⟩
  have h1 := H.out.keep hb
  have HB := Lib.hid hb
  have c4 : w1.cell? ⟨g, 4, none⟩ = some (.int .i64 (m : Int)) := Blk.cell h1 4
  have c5 : w1.cell? ⟨g, 5, none⟩ = some (.int .i64 1) := Blk.cell h1 5
  have c6 : w1.cell? ⟨g, 6, none⟩ = some (.int .u8 d) := Blk.cell h1 6
  have f4 := Blk.frozen h1 4
  have f5 := Blk.frozen h1 5
  have f6 := Blk.frozen h1 6
  have H1 := Lib.hid h1
  clear hb h1
  go_wp2
  go_end0
  exact ⟨rfl, ((Blk.set_ H1.out 6 (.int .u8 v)).set_ 5 (.int .i64 2)), (((Kp.of_below HB.out).setCell (.inl (by simp)) _).setCell (.inl (by simp)) _)⟩
set_option maxHeartbeats 4000000 in
theorem bstep_2 {w : World} {g : Nat} {k b m : Nat} {f t d : Int} (h : BuB w g ⟨k, f, t, b, m, 2, d⟩) (ho : Bu.ok ⟨k, f, t, b, m, 2, d⟩) (x : m ≠ b) (v : Int) : Calls Tryd.prog 8 #[.pointer (some ⟨g, 0, none⟩), .int .u8 v] w fun e w' => e = .returned (.tuple #[]) ∧ BuB w' g ⟨k, f, t, b, m, 3, d⟩ ∧ Kp [g] w w' := by
  have hD := bdone_any h ho
  rw [decide_eq_false x] at hD
  have b1 := ho.b1
  have m1 := ho.m1
  dsimp only at b1 m1
  have q1 : (m : Int) + 1 ≤ 65536 := by omega
  have H := Lib.hid h
  have HD := Lib.hid hD
  clear h ho hD b1 m1
  go_enter Tryd.func8, Tryd.ntmps8
  go_wp2_with fail
  refine HD.out.mono ?_
  rintro e w1 ⟨rfl, hb⟩
  have h1 := H.out.keep hb
  have HB := Lib.hid hb
  have c4 : w1.cell? ⟨g, 4, none⟩ = some (.int .i64 (m : Int)) := Blk.cell h1 4
  have c5 : w1.cell? ⟨g, 5, none⟩ = some (.int .i64 2) := Blk.cell h1 5
  have c6 : w1.cell? ⟨g, 6, none⟩ = some (.int .u8 d) := Blk.cell h1 6
  have f4 := Blk.frozen h1 4
  have f5 := Blk.frozen h1 5
  have f6 := Blk.frozen h1 6
  have H1 := Lib.hid h1
  clear hb h1
  go_wp2
  go_end0
  exact ⟨rfl, (Blk.set_ H1.out 5 (.int .i64 3)), ((Kp.of_below HB.out).setCell (.inl (by simp)) _)⟩
set_option maxHeartbeats 4000000 in
theorem bstep_3 {w : World} {g : Nat} {k b m : Nat} {f t d : Int} (h : BuB w g ⟨k, f, t, b, m, 3, d⟩) (ho : Bu.ok ⟨k, f, t, b, m, 3, d⟩) (x : m ≠ b) (v : Int) : Calls Tryd.prog 8 #[.pointer (some ⟨g, 0, none⟩), .int .u8 v] w fun e w' => e = .returned (.tuple #[]) ∧ BuB w' g ⟨k, f, t, b, m, 4, d⟩ ∧ Kp [g] w w' := by
  have hD := bdone_any h ho
  rw [decide_eq_false x] at hD
  have b1 := ho.b1
  have m1 := ho.m1
  dsimp only at b1 m1
  have q1 : (m : Int) + 1 ≤ 65536 := by omega
  have H := Lib.hid h
  have HD := Lib.hid hD
  clear h ho hD b1 m1
  go_enter Tryd.func8, Tryd.ntmps8
  go_wp2_with fail
  refine HD.out.mono ?_
  rintro e w1 ⟨rfl, hb⟩
  have h1 := H.out.keep hb
  have HB := Lib.hid hb
  have c4 : w1.cell? ⟨g, 4, none⟩ = some (.int .i64 (m : Int)) := Blk.cell h1 4
  have c5 : w1.cell? ⟨g, 5, none⟩ = some (.int .i64 3) := Blk.cell h1 5
  have c6 : w1.cell? ⟨g, 6, none⟩ = some (.int .u8 d) := Blk.cell h1 6
  have f4 := Blk.frozen h1 4
  have f5 := Blk.frozen h1 5
  have f6 := Blk.frozen h1 6
  have H1 := Lib.hid h1
  clear hb h1
  go_wp2
  go_end0
  exact ⟨rfl, (Blk.set_ H1.out 5 (.int .i64 4)), ((Kp.of_below HB.out).setCell (.inl (by simp)) _)⟩
set_option maxHeartbeats 4000000 in
theorem bstep_4 {w : World} {g : Nat} {k b m : Nat} {f t d : Int} (h : BuB w g ⟨k, f, t, b, m, 4, d⟩) (ho : Bu.ok ⟨k, f, t, b, m, 4, d⟩) (x : m ≠ b) (v : Int) : Calls Tryd.prog 8 #[.pointer (some ⟨g, 0, none⟩), .int .u8 v] w fun e w' => e = .returned (.tuple #[]) ∧ BuB w' g ⟨k, f, t, b, m, 5, d⟩ ∧ Kp [g] w w' := by
  have hD := bdone_any h ho
  rw [decide_eq_false x] at hD
  have b1 := ho.b1
  have m1 := ho.m1
  dsimp only at b1 m1
  have q1 : (m : Int) + 1 ≤ 65536 := by omega
  have H := Lib.hid h
  have HD := Lib.hid hD
  clear h ho hD b1 m1
  go_enter Tryd.func8, Tryd.ntmps8
  go_wp2_with fail
  refine HD.out.mono ?_
  rintro e w1 ⟨rfl, hb⟩
  have h1 := H.out.keep hb
  have HB := Lib.hid hb
  have c4 : w1.cell? ⟨g, 4, none⟩ = some (.int .i64 (m : Int)) := Blk.cell h1 4
  have c5 : w1.cell? ⟨g, 5, none⟩ = some (.int .i64 4) := Blk.cell h1 5
  have c6 : w1.cell? ⟨g, 6, none⟩ = some (.int .u8 d) := Blk.cell h1 6
  have f4 := Blk.frozen h1 4
  have f5 := Blk.frozen h1 5
  have f6 := Blk.frozen h1 6
  have H1 := Lib.hid h1
  clear hb h1
  go_wp2
  go_end0
  exact ⟨rfl, (Blk.set_ H1.out 5 (.int .i64 5)), ((Kp.of_below HB.out).setCell (.inl (by simp)) _)⟩
set_option maxHeartbeats 4000000 in
theorem bstep_5 {w : World} {g : Nat} {k b m : Nat} {f t d : Int} (h : BuB w g ⟨k, f, t, b, m, 5, d⟩) (ho : Bu.ok ⟨k, f, t, b, m, 5, d⟩) (x : m ≠ b) (v : Int) : Calls Tryd.prog 8 #[.pointer (some ⟨g, 0, none⟩), .int .u8 v] w fun e w' => e = .returned (.tuple #[]) ∧ BuB w' g ⟨k, f, t, b, m + 1, 0, d⟩ ∧ Kp [g] w w' := by
  have hD := bdone_any h ho
  rw [decide_eq_false x] at hD
  have b1 := ho.b1
  have m1 := ho.m1
  dsimp only at b1 m1
  have q1 : (m : Int) + 1 ≤ 65536 := by omega
  have H := Lib.hid h
  have HD := Lib.hid hD
  clear h ho hD b1 m1
  go_enter Tryd.func8, Tryd.ntmps8
  go_wp2_with fail
  refine HD.out.mono ?_
  rintro e w1 ⟨rfl, hb⟩
  have h1 := H.out.keep hb
  have HB := Lib.hid hb
  have c4 : w1.cell? ⟨g, 4, none⟩ = some (.int .i64 (m : Int)) := Blk.cell h1 4
  have c5 : w1.cell? ⟨g, 5, none⟩ = some (.int .i64 5) := Blk.cell h1 5
  have c6 : w1.cell? ⟨g, 6, none⟩ = some (.int .u8 d) := Blk.cell h1 6
  have f4 := Blk.frozen h1 4
  have f5 := Blk.frozen h1 5
  have f6 := Blk.frozen h1 6
  have H1 := Lib.hid h1
  clear hb h1
  go_wp2
  go_end0
  exact ⟨rfl, (((Blk.set_ H1.out 5 (.int .i64 6)).set_ 5 (.int .i64 0)).set_ 4 (.int .i64 ((m + 1 : Nat) : Int))), ((((Kp.of_below HB.out).setCell (.inl (by simp)) _).setCell (.inl (by simp)) _).setCell (.inl (by simp)) _)⟩
set_option maxHeartbeats 4000000 in
theorem bstep_any {w : World} {g : Nat} {s : Bu} (h : BuB w g s) (ho : s.ok) (v : Int) : Calls Tryd.prog 8 #[.pointer (some ⟨g, 0, none⟩), .int .u8 v] w fun e w' => e = .returned (.tuple #[]) ∧ BuB w' g (s.go v) ∧ Kp [g] w w' := by
  by_cases x : s.m = s.b
  · have e : s.go v = s := if_pos x
    rw [e]
    have hD := bdone_any h ho
    rw [decide_eq_true x] at hD
    have H := Lib.hid h
    have HD := Lib.hid hD
    clear h ho hD e x
    go_enter Tryd.func8, Tryd.ntmps8
    go_wp2_with fail
    refine HD.out.mono ?_
    rintro e w1 ⟨rfl, hb⟩
    have HB := Lib.hid hb
    clear hb
    go_wp2_with fail
    refine bodyPost_ret (results_none rfl _ _ _) rfl ?_
    exact ⟨rfl, H.out.keep HB.out, Kp.of_below HB.out⟩
  · obtain ⟨k, f, t, b, m, p, d⟩ := s
    have hp : p = 0 ∨ p = 1 ∨ p = 2 ∨ p = 3 ∨ p = 4 ∨ p = 5 := by have := ho.p6; dsimp only at this; omega
    have e : (⟨k, f, t, b, m, p, d⟩ : Bu).go v = if p = 1 then ⟨k, f, t, b, m, 2, v⟩ else if p = 5 then ⟨k, f, t, b, m + 1, 0, d⟩ else ⟨k, f, t, b, m, p + 1, d⟩ := if_neg x
    rw [e]
    rcases hp with rfl | rfl | rfl | rfl | rfl | rfl
    · exact bstep_0 h ho x v
    · exact bstep_1 h ho x v
    · exact bstep_2 h ho x v
    · exact bstep_3 h ho x v
    · exact bstep_4 h ho x v
    · exact bstep_5 h ho x v
set_option maxHeartbeats 4000000 in
theorem bnew_no (k : Nat) (f t l : Int) (f0 : 0 ≤ f) (f1 : f ≤ 65535) (t0 : 0 ≤ t) (t1 : t ≤ 65535) (hk : 5 ≤ k) (w : World) : Calls Tryd.prog 6 #[.int .u8 (k : Int), .int .u16 f, .int .u16 t, .int .u16 l] w fun e w' => e = .returned (.tuple #[.pointer none, .int .i64 12]) ∧ Below w.heap.size w w' := by
  have hA := vat_any k f t 0 f0 f1 t0 t1 (by omega) (by omega) w
  unfold atV at hA
  rw [if_neg (by omega)] at hA
  have HA := Lib.hid hA
  clear hA f0 f1 t0 t1 hk
  go_enter Tryd.func6, Tryd.ntmps6
  go_wp2_with fail
  refine HA.out.mono ?_
  rintro e w1 ⟨rfl, hb⟩
  have HB := Lib.hid hb
  clear hb
  go_wp2
  go_ret2
  exact ⟨rfl, HB.out.alloc HB.out.size _⟩
set_option maxHeartbeats 4000000 in
theorem bnew_any (k : Nat) (f t l : Int) (f0 : 0 ≤ f) (f1 : f ≤ 65535) (t0 : 0 ≤ t) (t1 : t ≤ 65535) (l0 : 0 ≤ l) (l1 : l ≤ 65535) (hk : k < 5) (w : World) : Calls Tryd.prog 6 #[.int .u8 (k : Int), .int .u16 f, .int .u16 t, .int .u16 l] w fun e w' => ∃ g, w.heap.size ≤ g ∧ e = .returned (.tuple #[.pointer (some ⟨g, 0, none⟩), .int .i64 0]) ∧ BuB w' g ⟨k, f, t, (cntP l).toNat, 0, 0, 0⟩ ∧ Below w.heap.size w w' := by
  have hA := vat_any k f t 0 f0 f1 t0 t1 (by omega) (by omega) w
  unfold atV at hA
  rw [if_pos ⟨hk, by omega⟩] at hA
  have hC := fun W => vcount_any l l0 l1 W
  obtain ⟨q0, q1⟩ := cntP_bd l l0 l1
  obtain ⟨c, hc⟩ : ∃ c : Nat, cntP l = (c : Int) := ⟨(cntP l).toNat, by omega⟩
  have hn : (cntP l).toNat = c := by omega
  rw [hn]
  rw [hc] at hC
  have HA := Lib.hid hA
  have HC := Lib.hid hC
  clear hA hC f0 f1 t0 t1 l0 l1 hk q0 q1 hc hn
  go_enter Tryd.func6, Tryd.ntmps6
  go_wp2_with fail
  refine HA.out.mono ?_
  rintro e w1 ⟨rfl, hb⟩
  have HB := Lib.hid hb
  clear hb
  go_wp2_with fail
  refine (HC.out _).mono ?_
  rintro e w2 ⟨rfl, rfl⟩
  go_wp2
  go_ret2
  exact ⟨w1.heap.size + 1, by have := HB.out.size; omega, by first | rfl | simp, Blk.new_ (by simp), (HB.out.alloc HB.out.size _).alloc (HB.out.alloc HB.out.size _).size _⟩
end Go.Proofs.YtndhkdcdhpfajaaDoor
