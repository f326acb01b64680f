/-
  One step of the statements keeps both clocks alike: stamps and cycles up to 2 to the 60, less some.
-/
import Derived.Test.YtlpicadfldbifaaC3
namespace Go.Proofs.Ytlpicadfldbifaa
open Go.RowKit
/-- Both clocks, at the same stamp, behind as many cycles, of one speed, asked for the same. -/
def Both (w : World) (g r : Nat) (now cyc : Int) : Prop :=
  ∃ f a nx nr : Bool, Blk w g 85 (ck now cyc f a nx) ∧ Blk w r 53 (rk now cyc f a nr) ∧ (a = false → nx = false) ∧ (a = true → nx = nr)
def StepPost (B : Nat) (w : World) (g r : Nat) (now cyc : Int) (e : Ending) (w' : World) : Prop :=
  e = .returned (.bool true) ∧ Below B w w' ∧ ∃ now' cyc' : Int, Both w' g r now' cyc' ∧ now ≤ now' ∧ now' ≤ now + 24 ∧ cyc ≤ cyc' ∧ cyc' ≤ cyc + 2
theorem blk_gb {w w' : World} {g r : Nat} {t t' : TypeId} {cs cs' : Array Value} (h : Blk w r t cs) (h' : Blk w g t' cs') (hne : t ≠ t') (q : w.grownBy w' (some g)) : Blk w' r t cs :=
  h.grown q (fun e => Blk.ne_ h h' hne (by injection e))
set_option maxHeartbeats 4000000 in
theorem step_cycle {B : Nat} {w : World} {g r : Nat} {now cyc : Int} (s : Int) (k : Bool) (hs : s % 5 = if k then 1 else 0) (s0 : 0 ≤ s) (s1 : s ≤ 255) (h : Both w g r now cyc) (hBw : B ≤ w.heap.size) (hBg : B ≤ g) (hBr : B ≤ r) (n0 : 0 ≤ now) (n1 : now ≤ 1152921504606846000) (k0 : 0 ≤ cyc) (k1 : cyc ≤ 1152921504606846000) :
    Calls Try.prog 42 #[.pointer (some ⟨g, 0, none⟩), .pointer (some ⟨r, 0, none⟩), .int .u8 s] w (StepPost B w g r now cyc) := by
  obtain ⟨f, a, nx, nr, hg, hr, ha, hb⟩ := h
  have ha := Lib.hid ha
  have hb := Lib.hid hb
  have lb := lenI_bd f k
  have ob := oneI_bd k
  have fin : ∀ w', Below B w w' → Blk w' g 85 (ck (now + lenI f k) (cyc + (1 + oneI k)) f a nx) → Blk w' r 53 (rk (now + lenI f k) (cyc + (1 + oneI k)) f a nr) → StepPost B w g r now cyc (.returned (.bool true)) w' := fun w' a1 a2 a3 =>
    ⟨rfl, a1, _, _, ⟨f, a, nx, nr, a2, a3, ha.out, hb.out⟩, by omega, by omega, by omega, by omega⟩
  clear ha hb
  cases k
  · simp only [Bool.false_eq_true, if_false] at hs
    have FIN := Lib.hid fin
    clear fin
    go_enter Try.func42, Try.ntmps42
    go_wp2_with fail
    refine (cycle_any false hg n0 (by omega) k0 (by omega)).mono ?_
    rintro e w1 ⟨rfl, g1, q1⟩
    have r1 := blk_gb hr hg (by decide) q1
    have z1 := q1.size
    go_wp2_with fail
    refine (rcycle_any false r1 n0 (by omega) k0 (by omega)).mono ?_
    rintro e w2 ⟨rfl, r2, q2⟩
    have g2 := blk_gb g1 r1 (by decide) q2
    have z2 := q2.size
    have bw := below_gb (below_gb (Below.refl B w) q1 hBw hBg) q2 (by omega) hBr
    clear r1 g1 hg hr
    obtain ⟨c0, c1, c2, c3, c4, hf⟩ := rk_cells r2
    go_wp2_with fail
    generalize lenI f false = L at *
    generalize oneI false = O at *
    go_quiet ((first | (go_at_call 39; exact Calls.quiet_of_same (now_any (g2.drewN _))) | (go_at_call 40; exact Calls.quiet_of_same (fast_any (g2.drewN _))) | (go_at_call 41; exact Calls.quiet_of_same (cycles_any (g2.drewN _)))))
    go_wp2_with fail
    go_ret
    exact FIN.out _ (below_drewN bw _) (g2.drewN _) (r2.drewN _)
  · simp only [if_true] at hs
    have FIN := Lib.hid fin
    clear fin
    go_enter Try.func42, Try.ntmps42
    go_wp2_with fail
    refine (cycle_any true hg n0 (by omega) k0 (by omega)).mono ?_
    rintro e w1 ⟨rfl, g1, q1⟩
    have r1 := blk_gb hr hg (by decide) q1
    have z1 := q1.size
    go_wp2_with fail
    refine (rcycle_any true r1 n0 (by omega) k0 (by omega)).mono ?_
    rintro e w2 ⟨rfl, r2, q2⟩
    have g2 := blk_gb g1 r1 (by decide) q2
    have z2 := q2.size
    have bw := below_gb (below_gb (Below.refl B w) q1 hBw hBg) q2 (by omega) hBr
    clear r1 g1 hg hr
    obtain ⟨c0, c1, c2, c3, c4, hf⟩ := rk_cells r2
    go_wp2_with fail
    generalize lenI f true = L at *
    generalize oneI true = O at *
    go_quiet ((first | (go_at_call 39; exact Calls.quiet_of_same (now_any (g2.drewN _))) | (go_at_call 40; exact Calls.quiet_of_same (fast_any (g2.drewN _))) | (go_at_call 41; exact Calls.quiet_of_same (cycles_any (g2.drewN _)))))
    go_wp2_with fail
    go_ret
    exact FIN.out _ (below_drewN bw _) (g2.drewN _) (r2.drewN _)
set_option maxHeartbeats 4000000 in
theorem step_ask {B : Nat} {w : World} {g r : Nat} {now cyc : Int} (s : Int) (k : Bool) (hs : s % 5 = if k then 2 else 3) (s0 : 0 ≤ s) (s1 : s ≤ 255) (h : Both w g r now cyc) (hBw : B ≤ w.heap.size) (hBg : B ≤ g) (hBr : B ≤ r) :
    Calls Try.prog 42 #[.pointer (some ⟨g, 0, none⟩), .pointer (some ⟨r, 0, none⟩), .int .u8 s] w (StepPost B w g r now cyc) := by
  obtain ⟨f, a, nx, nr, hg, hr, ha, hb⟩ := h
  clear ha hb
  have fin : ∀ w', Below B w w' → Blk w' g 85 (ck now cyc f true k) → Blk w' r 53 (rk now cyc f true k) → StepPost B w g r now cyc (.returned (.bool true)) w' := fun w' a1 a2 a3 =>
    ⟨rfl, a1, _, _, ⟨f, true, k, k, a2, a3, (fun e => by cases e), fun _ => rfl⟩, by omega, by omega, by omega, by omega⟩
  have FIN := Lib.hid fin
  clear fin
  cases k
  · simp only [Bool.false_eq_true, if_false] at hs
    go_enter Try.func42, Try.ntmps42
    go_wp2_with fail
    refine (ask_any false hg).mono ?_
    rintro e w1 ⟨rfl, g1, q1⟩
    have r1 := blk_gb hr hg (by decide) q1
    have z1 := q1.size
    go_wp2_with fail
    refine (rask_any false r1).mono ?_
    rintro e w2 ⟨rfl, r2, q2⟩
    have g2 := blk_gb g1 r1 (by decide) q2
    have z2 := q2.size
    have bw := below_gb (below_gb (Below.refl B w) q1 hBw hBg) q2 (by omega) hBr
    clear r1 g1 hg hr
    obtain ⟨c0, c1, c2, c3, c4, hf⟩ := rk_cells r2
    go_wp2_with fail
    go_quiet ((first | (go_at_call 39; exact Calls.quiet_of_same (now_any (g2.drewN _))) | (go_at_call 40; exact Calls.quiet_of_same (fast_any (g2.drewN _))) | (go_at_call 41; exact Calls.quiet_of_same (cycles_any (g2.drewN _)))))
    go_wp2_with fail
    go_ret
    exact FIN.out _ (below_drewN bw _) (g2.drewN _) (r2.drewN _)
  · simp only [if_true] at hs
    go_enter Try.func42, Try.ntmps42
    go_wp2_with fail
    refine (ask_any true hg).mono ?_
    rintro e w1 ⟨rfl, g1, q1⟩
    have r1 := blk_gb hr hg (by decide) q1
    have z1 := q1.size
    go_wp2_with fail
    refine (rask_any true r1).mono ?_
    rintro e w2 ⟨rfl, r2, q2⟩
    have g2 := blk_gb g1 r1 (by decide) q2
    have z2 := q2.size
    have bw := below_gb (below_gb (Below.refl B w) q1 hBw hBg) q2 (by omega) hBr
    clear r1 g1 hg hr
    obtain ⟨c0, c1, c2, c3, c4, hf⟩ := rk_cells r2
    go_wp2_with fail
    go_quiet ((first | (go_at_call 39; exact Calls.quiet_of_same (now_any (g2.drewN _))) | (go_at_call 40; exact Calls.quiet_of_same (fast_any (g2.drewN _))) | (go_at_call 41; exact Calls.quiet_of_same (cycles_any (g2.drewN _)))))
    go_wp2_with fail
    go_ret
    exact FIN.out _ (below_drewN bw _) (g2.drewN _) (r2.drewN _)
set_option maxHeartbeats 4000000 in
theorem step_turn {B : Nat} {w : World} {g r : Nat} {now cyc : Int} (s : Int) (hs : s % 5 = 4) (s0 : 0 ≤ s) (s1 : s ≤ 255) (h : Both w g r now cyc) (hBw : B ≤ w.heap.size) (hBg : B ≤ g) (hBr : B ≤ r) :
    Calls Try.prog 42 #[.pointer (some ⟨g, 0, none⟩), .pointer (some ⟨r, 0, none⟩), .int .u8 s] w (StepPost B w g r now cyc) := by
  obtain ⟨f, a, nx, nr, hg, hr, ha, hb⟩ := h
  cases a
  · obtain rfl : nx = false := ha rfl
    clear ha hb
    have fin : ∀ w', Below B w w' → Blk w' g 85 (ck now cyc f false false) → Blk w' r 53 (rk now cyc f false nr) → StepPost B w g r now cyc (.returned (.bool true)) w' := fun w' a1 a2 a3 =>
      ⟨rfl, a1, _, _, ⟨f, false, false, nr, a2, a3, fun _ => rfl, (fun e => by cases e)⟩, by omega, by omega, by omega, by omega⟩
    have FIN := Lib.hid fin
    clear fin
    go_enter Try.func42, Try.ntmps42
    go_wp2_with fail
    refine (turn_no hg).mono ?_
    rintro e w1 ⟨rfl, g1, q1⟩
    have r1 := blk_gb hr hg (by decide) q1
    have z1 := q1.size
    go_wp2_with fail
    refine (rturn_any r1).mono ?_
    rintro e w2 ⟨rfl, r2', q2⟩
    have r2 : Blk w2 r 53 (rk now cyc f false nr) := r2'
    clear r2'
    have g2 := blk_gb g1 r1 (by decide) q2
    have z2 := q2.size
    have bw := below_gb (below_gb (Below.refl B w) q1 hBw hBg) q2 (by omega) hBr
    clear r1 g1 hg hr
    obtain ⟨c0, c1, c2, c3, c4, hf⟩ := rk_cells r2
    go_wp2_with fail
    go_quiet ((first | (go_at_call 39; exact Calls.quiet_of_same (now_any (g2.drewN _))) | (go_at_call 40; exact Calls.quiet_of_same (fast_any (g2.drewN _))) | (go_at_call 41; exact Calls.quiet_of_same (cycles_any (g2.drewN _)))))
    go_wp2_with fail
    go_ret
    exact FIN.out _ (below_drewN bw _) (g2.drewN _) (r2.drewN _)
  · obtain rfl : nx = nr := hb rfl
    clear ha hb
    have fin : ∀ w', Below B w w' → Blk w' g 85 (ck now cyc nx false false) → Blk w' r 53 (rk now cyc nx false nx) → StepPost B w g r now cyc (.returned (.bool true)) w' := fun w' a1 a2 a3 =>
      ⟨rfl, a1, _, _, ⟨nx, false, false, nx, a2, a3, fun _ => rfl, (fun e => by cases e)⟩, by omega, by omega, by omega, by omega⟩
    have FIN := Lib.hid fin
    clear fin
    go_enter Try.func42, Try.ntmps42
    go_wp2_with fail
    refine (turn_yes hg).mono ?_
    rintro e w1 ⟨rfl, g1, q1⟩
    have r1 := blk_gb hr hg (by decide) q1
    have z1 := q1.size
    go_wp2_with fail
    refine (rturn_any r1).mono ?_
    rintro e w2 ⟨rfl, r2', q2⟩
    have r2 : Blk w2 r 53 (rk now cyc nx false nx) := r2'
    clear r2'
    have g2 := blk_gb g1 r1 (by decide) q2
    have z2 := q2.size
    have bw := below_gb (below_gb (Below.refl B w) q1 hBw hBg) q2 (by omega) hBr
    clear r1 g1 hg hr
    obtain ⟨c0, c1, c2, c3, c4, hf⟩ := rk_cells r2
    go_wp2_with fail
    go_quiet ((first | (go_at_call 39; exact Calls.quiet_of_same (now_any (g2.drewN _))) | (go_at_call 40; exact Calls.quiet_of_same (fast_any (g2.drewN _))) | (go_at_call 41; exact Calls.quiet_of_same (cycles_any (g2.drewN _)))))
    go_wp2_with fail
    go_ret
    exact FIN.out _ (below_drewN bw _) (g2.drewN _) (r2.drewN _)
theorem step_any {B : Nat} {w : World} {g r : Nat} {now cyc : Int} (s : Int) (s0 : 0 ≤ s) (s1 : s ≤ 255) (h : Both w g r now cyc) (hBw : B ≤ w.heap.size) (hBg : B ≤ g) (hBr : B ≤ r) (n0 : 0 ≤ now) (n1 : now ≤ 1152921504606846000) (k0 : 0 ≤ cyc) (k1 : cyc ≤ 1152921504606846000) :
    Calls Try.prog 42 #[.pointer (some ⟨g, 0, none⟩), .pointer (some ⟨r, 0, none⟩), .int .u8 s] w (StepPost B w g r now cyc) := by
  have : s % 5 = 0 ∨ s % 5 = 1 ∨ s % 5 = 2 ∨ s % 5 = 3 ∨ s % 5 = 4 := by omega
  rcases this with e | e | e | e | e
  · exact step_cycle s false e s0 s1 h hBw hBg hBr n0 n1 k0 k1
  · exact step_cycle s true e s0 s1 h hBw hBg hBr n0 n1 k0 k1
  · exact step_ask s true e s0 s1 h hBw hBg hBr
  · exact step_ask s false e s0 s1 h hBw hBg hBr
  · exact step_turn s e s0 s1 h hBw hBg hBr
end Go.Proofs.Ytlpicadfldbifaa
