/-
  The statements' play: a controller and the reference's go on alike.
-/
import Derived.Test.YtjknjlkjpccibaaIrq8
import Derived.Test.YtjknjlkjpccibaaG17
import Derived.Test.YtjknjlkjpccibaaG19
import Derived.Deep.Cut
import Derived.Deep.CutRange
import Derived.LoopTactic
import Derived.IntWalk
namespace Go.Proofs.Ytjknjlkjpccibaa
open Go.RowKit
set_option linter.unusedVariables false
set_option linter.unusedSimpArgs false
set_option maxRecDepth 100000
def iiV (p : Int × Int) : Nat → Value | 0 => .int .u8 p.1 | _ => .int .u8 p.2
theorem I2Row.frow {w : World} {A : Option Addr} {m : Nat} {ps : Nat → Int × Int} (h : I2Row w .u8 .u8 A m ps) : FRow w 2 A m (fun i => iiV (ps i)) := fun i hi => by
  obtain ⟨ad, e, hl, h0, h1, _⟩ := h i hi
  refine ⟨ad, e, hl, fun j hj => ?_⟩
  rcases j with _ | _ | j
  · exact h0
  · exact h1
  · omega
theorem istepCells {w : World} {A : Option Addr} {n : Nat} {qs : Nat → Int × Int} (Q : FRow w 2 A n (fun i => iiV (qs i))) (k : Nat) (hk : k < n) : ∃ ad : Addr, A = some ad ∧ ad.block < w.heap.size ∧ w.cell? (ad.add (k * 2)) = some (.int .u8 (qs k).1) ∧
    w.cell? ⟨(ad.add (k * 2)).block, (ad.add (k * 2)).off + 1, none⟩ = some (.int .u8 (qs k).2) := by
  obtain ⟨ad, e, hl, q0, q1, _⟩ := FRow.at_ Q k hk
  exact ⟨ad, e, hl, q0 (by decide), q1 (by decide)⟩
/-- A controller and the reference's, alike. -/
def IPl (W : World) (g r : Nat) (s : Iq) (w : World) : Prop := QB W.heap.size W g s w ∧ RQ w r s ∧ W.heap.size ≤ r
def IPlR (W : World) (g r : Nat) (w : World) (e : Ending) (w' : World) : Prop :=
  e = .returned (.bool true) ∧ (∃ s, IPl W g r s w') ∧ Kp [g, r] w w'
section
variable {W w w1 w2 w' : World} {g r : Nat} {s s' : Iq}
theorem IPl.ne (h : IPl W g r s w) : g ≠ r := h.1.1.1.ne_ h.2.1.1 (by decide)
theorem IPl.on (h : IPl W g r s w) (k : Below w.heap.size w w') : IPl W g r s w' := ⟨h.1.on k, h.2.1.keep k h.2.1.1.lt, h.2.2⟩
theorem IPl.kp0 (h : IPl W g r s w) (k : Kp [] w w') : IPl W g r s w' := ⟨h.1.kp0 k, h.2.1.kp k (by simp), h.2.2⟩
/-- One of both goes on, then the other. -/
theorem IPl.two (h : IPl W g r s w) (h1 : IQ w1 g 74 (Array.replicate 2 .nilFunc) 0 s') (k1 : Kp [g] w w1) (h2 : RQ w2 r s') (k2 : Kp [r] w1 w2) : IPl W g r s' w2 ∧ Kp [g, r] w w2 := by
  have hk : Kp [g, r] w w2 := (k1.mono (M := [g, r]) (by simp)).trans (k2.mono (M := [g, r]) (by simp)) (by simp)
  refine ⟨⟨⟨h1.kp k2 (by simpa using h.ne), hk.onto h.1.2.1 h.1.2.2.1 (fun x hx => ?_), Nat.le_trans h.1.2.2.1 hk.size, h.1.2.2.2⟩, h2, h.2.2⟩, hk⟩
  rcases (by simpa using hx : x = g ∨ x = r) with rfl | rfl
  · exact h.1.2.2.2
  · exact h.2.2
theorem rq_over (h : RQ w r s) : RQ (w.setCell ⟨r, 1, none⟩ (.bool true)) r ⟨s.d, true⟩ ∧ Kp [r] w (w.setCell ⟨r, 1, none⟩ (.bool true)) := ⟨⟨h.1.set_ 1 _, h.2⟩, (Kp.refl _ _).setCell (.inl (by simp)) _⟩
end
set_option maxHeartbeats 16000000 in
theorem iplay_any {W w : World} {g r : Nat} {s : Iq} {m cm : Nat} {A2 : Option Addr} {qs : Nat → Int × Int} (h : IPl W g r s w) (Q : I2Row W .u8 .u8 A2 m qs) (hm : m ≤ 60) :
    Calls Try.prog 10 #[.pointer (some ⟨g, 0, none⟩), .pointer (some ⟨r, 0, none⟩), .slice A2 m cm] w (IPlR W g r w) := by
  have H := Lib.hid h
  have HQ := Lib.hid Q
  clear h Q
  go_enter Try.func10, Try.ntmps10
  go_wp2_with fail
  go_loopw [7] (fun i wr => ∃ k : Nat, k ≤ m ∧ i = .int .i64 k ∧ (∃ s, IPl W g r s wr) ∧ Kp [g, r] w wr) (fun i _ => m - (intOf i).toNat)
  case atStart => exact ⟨0, Nat.zero_le _, rfl, ⟨s, H.out⟩, Kp.refl _ _⟩
  case round =>
    obtain ⟨k, hk, rfl, ⟨s, hI⟩, hK⟩ := hrel
    have HI := Lib.hid hI
    have HK := Lib.hid hK
    by_cases hlt : k < m
    · obtain ⟨ad, rfl, hl, e0, e1⟩ := istepCells ((I2Row.frow (HQ.out.keep hI.1.2.1))) k hlt
      have hag : ad.block < W.heap.size := by
        obtain ⟨ad2, e2, hl2, _⟩ := HQ.out k hlt
        cases e2
        exact hl2
      have hwf : (Lit.int .u8 (qs k).1).wf = true ∧ (Lit.int .u8 (qs k).2).wf = true := by
        obtain ⟨_, _, _, _, _, wf0, wf1⟩ := HQ.out k hlt
        exact ⟨wf0, wf1⟩
      obtain ⟨wf0, wf1⟩ := hwf
      obtain ⟨a0, a1⟩ := bounds_u8 wf0
      obtain ⟨b0, b1⟩ := bounds_u8 wf1
      generalize (qs k).1 = reg at *
      generalize (qs k).2 = b at *
      have i0 : (0 : Int) ≤ (k : Int) := by omega
      have i1 : (k : Int) < m := by omega
      clear hI hK H wf0 wf1
      go_upto_if 22 with fail
      go_cut [7] from 11 to 111 (fun i wx => i = .int .i64 k ∧ (∃ s, IPl W g r s wx) ∧ Kp [g, r] wr wx)
      case first =>
        by_cases h3 : 3 < reg
        · go_wp2_with fail
          refine (qover_any HI.out.1.1).mono ?_
          rintro e w1 ⟨rfl, y1, y2⟩
          have R1 := Lib.hid (HI.out.2.1.kp y2 (by simpa using HI.out.ne.symm))
          have Y1 := Lib.hid y1
          have Y2 := Lib.hid y2
          have d1 : w1.cell? ⟨r, 1, none⟩ = some (.bool s.due) := R1.out.1.cell 1
          have f1 := R1.out.1.frozen 1
          obtain ⟨z1, z2⟩ := rq_over R1.out
          have X := Lib.hid (HI.out.two Y1.out Y2.out z1 z2)
          clear y1 y2 z1 z2
          go_wp2_with fail
          go_meet
          case rel => exact ⟨rfl, ⟨_, X.out.1⟩, X.out.2⟩
        · have h3' : reg ≤ 3 := by omega
          have hwr : IntKind.i64.wrap reg = reg := IntWalk.i64_in _ (by omega)
          go_wp2_with fail
          refine rg_begin (S := fun w' => w'.cell? (ad.add (k * 2)) = some (.int .u8 reg) ∧ w'.cell? ⟨(ad.add (k * 2)).block, (ad.add (k * 2)).off + 1, none⟩ = some (.int .u8 b)) 13 #[false, false, false, false, false, false, false, false, false, false, false, false, false] (by kernel_rfl) (by kernel_rfl) (by kernel_rfl) ?_ (fun hHeld => ?_)
          · exact ⟨e0, e1⟩
          refine rg_take (i := 0) (d := some 28) (l := #[true, false, false, false, false, false, false, false, false, false, false, false, false]) (fuel := 12) (v := ?_) rfl (by kernel_rfl) (by kernel_rfl) (by kernel_rfl) (by kernel_rfl) (by kernel_rfl) (fun _ _ _ h => h) (by kernel_rfl) ?_ (by assumption) ?_
          rotate_left 1
          · (intro wS hSw; (try dsimp only at hSw); go_simp; try with_reducible rfl)
          try simp only [Act.put, List.setIfInBounds_toArray, List.set_cons_zero, List.set_cons_succ]
          refine rg_take (i := 1) (d := some 29) (l := #[true, true, false, false, false, false, false, false, false, false, false, false, false]) (fuel := 11) (v := ?_) rfl (by kernel_rfl) (by kernel_rfl) (by kernel_rfl) (by kernel_rfl) (by kernel_rfl) (fun _ _ _ h => h) (by kernel_rfl) ?_ (by assumption) ?_
          rotate_left 1
          · (intro wS hSw; (try dsimp only at hSw); go_simp; try with_reducible rfl)
          try simp only [Act.put, List.setIfInBounds_toArray, List.set_cons_zero, List.set_cons_succ]
          refine rg_take (i := 2) (d := some 30) (l := #[true, true, true, false, false, false, false, false, false, false, false, false, false]) (fuel := 10) (v := ?_) rfl (by kernel_rfl) (by kernel_rfl) (by kernel_rfl) (by kernel_rfl) (by kernel_rfl) (fun _ _ _ h => h) (by kernel_rfl) ?_ (by assumption) ?_
          rotate_left 1
          · (intro wS hSw; (try dsimp only at hSw); go_simp; try with_reducible rfl)
          try simp only [Act.put, List.setIfInBounds_toArray, List.set_cons_zero, List.set_cons_succ]
          refine rg_take (i := 3) (d := some 31) (l := #[true, true, true, true, false, false, false, false, false, false, false, false, false]) (fuel := 9) (v := ?_) rfl (by kernel_rfl) (by kernel_rfl) (by kernel_rfl) (by kernel_rfl) (by kernel_rfl) (fun _ _ _ h => h) (by kernel_rfl) ?_ (by assumption) ?_
          rotate_left 1
          · (intro wS hSw; (try dsimp only at hSw); go_simp; try with_reducible rfl)
          try simp only [Act.put, List.setIfInBounds_toArray, List.set_cons_zero, List.set_cons_succ]
          refine rg_take (i := 4) (d := some 32) (l := #[true, true, true, true, true, false, false, false, false, false, false, false, false]) (fuel := 8) (v := ?_) rfl (by kernel_rfl) (by kernel_rfl) (by kernel_rfl) (by kernel_rfl) (by kernel_rfl) (fun _ _ _ h => h) (by kernel_rfl) ?_ (by assumption) ?_
          rotate_left 1
          · (intro wS hSw; (try dsimp only at hSw); go_simp; try with_reducible rfl)
          try simp only [Act.put, List.setIfInBounds_toArray, List.set_cons_zero, List.set_cons_succ]
          refine rg_take (i := 5) (d := some 33) (l := #[true, true, true, true, true, true, false, false, false, false, false, false, false]) (fuel := 7) (v := ?_) rfl (by kernel_rfl) (by kernel_rfl) (by kernel_rfl) (by kernel_rfl) (by kernel_rfl) (fun _ _ _ h => h) (by kernel_rfl) ?_ (by assumption) ?_
          rotate_left 1
          · (intro wS hSw; (try dsimp only at hSw); go_simp; try with_reducible rfl)
          try simp only [Act.put, List.setIfInBounds_toArray, List.set_cons_zero, List.set_cons_succ]
          refine rg_take (i := 6) (d := some 34) (l := #[true, true, true, true, true, true, true, false, false, false, false, false, false]) (fuel := 6) (v := ?_) rfl (by kernel_rfl) (by kernel_rfl) (by kernel_rfl) (by kernel_rfl) (by kernel_rfl) (fun _ _ _ h => h) (by kernel_rfl) ?_ (by assumption) ?_
          rotate_left 1
          · (intro wS hSw; (try dsimp only at hSw); go_simp; try with_reducible rfl)
          try simp only [Act.put, List.setIfInBounds_toArray, List.set_cons_zero, List.set_cons_succ]
          try rw [hwr]
          refine rg_take (i := 7) (d := some 35) (l := #[true, true, true, true, true, true, true, true, false, false, false, false, false]) (fuel := 5) (v := ?_) rfl (by kernel_rfl) (by kernel_rfl) (by kernel_rfl) (by kernel_rfl) (by kernel_rfl) (fun _ _ _ h => h) (by kernel_rfl) ?_ (by assumption) ?_
          rotate_left 1
          · (intro wS hSw; (try dsimp only at hSw); go_simp; try with_reducible rfl)
          try simp only [Act.put, List.setIfInBounds_toArray, List.set_cons_zero, List.set_cons_succ]
          refine rg_take (i := 8) (d := some 36) (l := #[true, true, true, true, true, true, true, true, true, false, false, false, false]) (fuel := 4) (v := ?_) rfl (by kernel_rfl) (by kernel_rfl) (by kernel_rfl) (by kernel_rfl) (by kernel_rfl) (fun _ _ _ h => h) (by kernel_rfl) ?_ (by assumption) ?_
          rotate_left 1
          · (intro wS hSw; (try dsimp only at hSw); go_simp; try with_reducible rfl)
          try simp only [Act.put, List.setIfInBounds_toArray, List.set_cons_zero, List.set_cons_succ]
          refine rg_take (i := 9) (d := some 37) (l := #[true, true, true, true, true, true, true, true, true, true, false, false, false]) (fuel := 3) (v := ?_) rfl (by kernel_rfl) (by kernel_rfl) (by kernel_rfl) (by kernel_rfl) (by kernel_rfl) (fun _ _ _ h => h) (by kernel_rfl) ?_ (by assumption) ?_
          rotate_left 1
          · (intro wS hSw; (try dsimp only at hSw); go_simp; try with_reducible rfl)
          try simp only [Act.put, List.setIfInBounds_toArray, List.set_cons_zero, List.set_cons_succ]
          refine rg_take (i := 10) (d := some 38) (l := #[true, true, true, true, true, true, true, true, true, true, true, false, false]) (fuel := 2) (v := ?_) rfl (by kernel_rfl) (by kernel_rfl) (by kernel_rfl) (by kernel_rfl) (by kernel_rfl) (fun _ _ _ h => h) (by kernel_rfl) ?_ (by assumption) ?_
          rotate_left 1
          · (intro wS hSw; (try dsimp only at hSw); go_simp; try with_reducible rfl)
          try simp only [Act.put, List.setIfInBounds_toArray, List.set_cons_zero, List.set_cons_succ]
          refine rg_take (i := 11) (d := some 39) (l := #[true, true, true, true, true, true, true, true, true, true, true, true, false]) (fuel := 1) (v := ?_) rfl (by kernel_rfl) (by kernel_rfl) (by kernel_rfl) (by kernel_rfl) (by kernel_rfl) (fun _ _ _ h => h) (by kernel_rfl) ?_ (by assumption) ?_
          rotate_left 1
          · (intro wS hSw; (try dsimp only at hSw); go_simp; try with_reducible rfl)
          try simp only [Act.put, List.setIfInBounds_toArray, List.set_cons_zero, List.set_cons_succ]
          refine rg_next (i := 12) (l := #[true, true, true, true, true, true, true, true, true, true, true, true, true]) (fuel := 0) (by kernel_rfl) rfl (by kernel_rfl) (by kernel_rfl) (fun K hK => ?_)
          go_simp
          (go_at_call 33)
          refine (qwrite_any (HI.out.kp0 (Kp.refl _ _).drew).1.1 reg b b0 b1).mono ?_
          rintro e w1 ⟨rfl, y1, y2⟩
          replace y2 : Kp [g] wr w1 := ((Kp.refl [g] wr).drew).trans y2 (by simp)
          have R1 := Lib.hid (HI.out.2.1.kp y2 (by simpa using HI.out.ne.symm))
          have Y1 := Lib.hid y1
          have Y2 := Lib.hid y2
          have g0 : w1.cell? (ad.add (k * 2)) = some (.int .u8 reg) := (y2.cell (p := ad.add (k * 2)) (by rw [block_of_add]; exact hl) (by rw [block_of_add]; simp; have := HI.out.1.2.2.2; omega)).trans e0
          have g1 : w1.cell? ⟨(ad.add (k * 2)).block, (ad.add (k * 2)).off + 1, none⟩ = some (.int .u8 b) := (y2.cell (p := ⟨(ad.add (k * 2)).block, (ad.add (k * 2)).off + 1, none⟩) (by rw [block_of_add]; exact hl) (by rw [block_of_add]; simp; have := HI.out.1.2.2.2; omega)).trans e1
          clear y1 y2 e0 e1
          first | (refine hK.out _ _ ?_ (fun hHeld => ?_)) | (go_wp2_with fail; refine hK.out _ _ ?_ (fun hHeld => ?_))
          · (try dsimp only); exact ⟨g0, g1⟩
          clear hK K
          try simp only [Act.put, List.setIfInBounds_toArray, List.set_cons_zero, List.set_cons_succ]
          refine wpAnyH_done (by kernel_rfl) ?_ _
          clear hHeld
          go_wp2_with fail
          refine rg_begin (S := fun w' => w'.cell? (ad.add (k * 2)) = some (.int .u8 reg) ∧ w'.cell? ⟨(ad.add (k * 2)).block, (ad.add (k * 2)).off + 1, none⟩ = some (.int .u8 b)) 13 #[false, false, false, false, false, false, false, false, false, false, false, false, false] (by kernel_rfl) (by kernel_rfl) (by kernel_rfl) ?_ (fun hHeld => ?_)
          · exact ⟨g0, g1⟩
          refine rg_take (i := 0) (d := some 41) (l := #[true, false, false, false, false, false, false, false, false, false, false, false, false]) (fuel := 12) (v := ?_) rfl (by kernel_rfl) (by kernel_rfl) (by kernel_rfl) (by kernel_rfl) (by kernel_rfl) (fun _ _ _ h => h) (by kernel_rfl) ?_ (by assumption) ?_
          rotate_left 1
          · (intro wS hSw; (try dsimp only at hSw); go_simp; try with_reducible rfl)
          try simp only [Act.put, List.setIfInBounds_toArray, List.set_cons_zero, List.set_cons_succ]
          refine rg_take (i := 1) (d := some 42) (l := #[true, true, false, false, false, false, false, false, false, false, false, false, false]) (fuel := 11) (v := ?_) rfl (by kernel_rfl) (by kernel_rfl) (by kernel_rfl) (by kernel_rfl) (by kernel_rfl) (fun _ _ _ h => h) (by kernel_rfl) ?_ (by assumption) ?_
          rotate_left 1
          · (intro wS hSw; (try dsimp only at hSw); go_simp; try with_reducible rfl)
          try simp only [Act.put, List.setIfInBounds_toArray, List.set_cons_zero, List.set_cons_succ]
          refine rg_take (i := 2) (d := some 43) (l := #[true, true, true, false, false, false, false, false, false, false, false, false, false]) (fuel := 10) (v := ?_) rfl (by kernel_rfl) (by kernel_rfl) (by kernel_rfl) (by kernel_rfl) (by kernel_rfl) (fun _ _ _ h => h) (by kernel_rfl) ?_ (by assumption) ?_
          rotate_left 1
          · (intro wS hSw; (try dsimp only at hSw); go_simp; try with_reducible rfl)
          try simp only [Act.put, List.setIfInBounds_toArray, List.set_cons_zero, List.set_cons_succ]
          refine rg_take (i := 3) (d := some 44) (l := #[true, true, true, true, false, false, false, false, false, false, false, false, false]) (fuel := 9) (v := ?_) rfl (by kernel_rfl) (by kernel_rfl) (by kernel_rfl) (by kernel_rfl) (by kernel_rfl) (fun _ _ _ h => h) (by kernel_rfl) ?_ (by assumption) ?_
          rotate_left 1
          · (intro wS hSw; (try dsimp only at hSw); go_simp; try with_reducible rfl)
          try simp only [Act.put, List.setIfInBounds_toArray, List.set_cons_zero, List.set_cons_succ]
          refine rg_take (i := 4) (d := some 45) (l := #[true, true, true, true, true, false, false, false, false, false, false, false, false]) (fuel := 8) (v := ?_) rfl (by kernel_rfl) (by kernel_rfl) (by kernel_rfl) (by kernel_rfl) (by kernel_rfl) (fun _ _ _ h => h) (by kernel_rfl) ?_ (by assumption) ?_
          rotate_left 1
          · (intro wS hSw; (try dsimp only at hSw); go_simp; try with_reducible rfl)
          try simp only [Act.put, List.setIfInBounds_toArray, List.set_cons_zero, List.set_cons_succ]
          refine rg_take (i := 5) (d := some 46) (l := #[true, true, true, true, true, true, false, false, false, false, false, false, false]) (fuel := 7) (v := ?_) rfl (by kernel_rfl) (by kernel_rfl) (by kernel_rfl) (by kernel_rfl) (by kernel_rfl) (fun _ _ _ h => h) (by kernel_rfl) ?_ (by assumption) ?_
          rotate_left 1
          · (intro wS hSw; (try dsimp only at hSw); go_simp; try with_reducible rfl)
          try simp only [Act.put, List.setIfInBounds_toArray, List.set_cons_zero, List.set_cons_succ]
          refine rg_take (i := 6) (d := some 47) (l := #[true, true, true, true, true, true, true, false, false, false, false, false, false]) (fuel := 6) (v := ?_) rfl (by kernel_rfl) (by kernel_rfl) (by kernel_rfl) (by kernel_rfl) (by kernel_rfl) (fun _ _ _ h => h) (by kernel_rfl) ?_ (by assumption) ?_
          rotate_left 1
          · (intro wS hSw; (try dsimp only at hSw); go_simp; try with_reducible rfl)
          try simp only [Act.put, List.setIfInBounds_toArray, List.set_cons_zero, List.set_cons_succ]
          try rw [hwr]
          refine rg_take (i := 7) (d := some 48) (l := #[true, true, true, true, true, true, true, true, false, false, false, false, false]) (fuel := 5) (v := ?_) rfl (by kernel_rfl) (by kernel_rfl) (by kernel_rfl) (by kernel_rfl) (by kernel_rfl) (fun _ _ _ h => h) (by kernel_rfl) ?_ (by assumption) ?_
          rotate_left 1
          · (intro wS hSw; (try dsimp only at hSw); go_simp; try with_reducible rfl)
          try simp only [Act.put, List.setIfInBounds_toArray, List.set_cons_zero, List.set_cons_succ]
          refine rg_take (i := 8) (d := some 49) (l := #[true, true, true, true, true, true, true, true, true, false, false, false, false]) (fuel := 4) (v := ?_) rfl (by kernel_rfl) (by kernel_rfl) (by kernel_rfl) (by kernel_rfl) (by kernel_rfl) (fun _ _ _ h => h) (by kernel_rfl) ?_ (by assumption) ?_
          rotate_left 1
          · (intro wS hSw; (try dsimp only at hSw); go_simp; try with_reducible rfl)
          try simp only [Act.put, List.setIfInBounds_toArray, List.set_cons_zero, List.set_cons_succ]
          refine rg_take (i := 9) (d := some 50) (l := #[true, true, true, true, true, true, true, true, true, true, false, false, false]) (fuel := 3) (v := ?_) rfl (by kernel_rfl) (by kernel_rfl) (by kernel_rfl) (by kernel_rfl) (by kernel_rfl) (fun _ _ _ h => h) (by kernel_rfl) ?_ (by assumption) ?_
          rotate_left 1
          · (intro wS hSw; (try dsimp only at hSw); go_simp; try with_reducible rfl)
          try simp only [Act.put, List.setIfInBounds_toArray, List.set_cons_zero, List.set_cons_succ]
          refine rg_take (i := 10) (d := some 51) (l := #[true, true, true, true, true, true, true, true, true, true, true, false, false]) (fuel := 2) (v := ?_) rfl (by kernel_rfl) (by kernel_rfl) (by kernel_rfl) (by kernel_rfl) (by kernel_rfl) (fun _ _ _ h => h) (by kernel_rfl) ?_ (by assumption) ?_
          rotate_left 1
          · (intro wS hSw; (try dsimp only at hSw); go_simp; try with_reducible rfl)
          try simp only [Act.put, List.setIfInBounds_toArray, List.set_cons_zero, List.set_cons_succ]
          refine rg_take (i := 11) (d := some 52) (l := #[true, true, true, true, true, true, true, true, true, true, true, true, false]) (fuel := 1) (v := ?_) rfl (by kernel_rfl) (by kernel_rfl) (by kernel_rfl) (by kernel_rfl) (by kernel_rfl) (fun _ _ _ h => h) (by kernel_rfl) ?_ (by assumption) ?_
          rotate_left 1
          · (intro wS hSw; (try dsimp only at hSw); go_simp; try with_reducible rfl)
          try simp only [Act.put, List.setIfInBounds_toArray, List.set_cons_zero, List.set_cons_succ]
          refine rg_next (i := 12) (l := #[true, true, true, true, true, true, true, true, true, true, true, true, true]) (fuel := 0) (by kernel_rfl) rfl (by kernel_rfl) (by kernel_rfl) (fun K hK => ?_)
          go_simp
          (go_at_call 34)
          refine (rqwrite_any (R1.out.kp (Kp.refl [] _).drew (by simp)) reg b b0 b1).mono ?_
          rintro e w2 ⟨rfl, z1, z2⟩
          replace z2 : Kp [r] w1 w2 := ((Kp.refl [r] w1).drew).trans z2 (by simp)
          have X := Lib.hid (HI.out.two Y1.out Y2.out z1 z2)
          have j0 : w2.cell? (ad.add (k * 2)) = some (.int .u8 reg) := (z2.cell (p := ad.add (k * 2)) (by rw [block_of_add]; exact Nat.lt_of_lt_of_le hl Y2.out.size) (by rw [block_of_add]; simp; have := HI.out.2.2; omega)).trans g0
          have j1 : w2.cell? ⟨(ad.add (k * 2)).block, (ad.add (k * 2)).off + 1, none⟩ = some (.int .u8 b) := (z2.cell (p := ⟨(ad.add (k * 2)).block, (ad.add (k * 2)).off + 1, none⟩) (by rw [block_of_add]; exact Nat.lt_of_lt_of_le hl Y2.out.size) (by rw [block_of_add]; simp; have := HI.out.2.2; omega)).trans g1
          clear z1 z2 g0 g1
          first | (refine hK.out _ _ ?_ (fun hHeld => ?_)) | (go_wp2_with fail; refine hK.out _ _ ?_ (fun hHeld => ?_))
          · (try dsimp only); exact ⟨j0, j1⟩
          clear hK K
          try simp only [Act.put, List.setIfInBounds_toArray, List.set_cons_zero, List.set_cons_succ]
          refine wpAnyH_done (by kernel_rfl) ?_ _
          clear hHeld j0 j1
          go_wp2_with fail
          go_meet
          case rel => exact ⟨rfl, ⟨_, X.out.1⟩, X.out.2⟩
      case rest =>
        obtain ⟨rfl, ⟨⟨d, due⟩, hI2⟩, hK2⟩ := hcut
        have HI2 := Lib.hid hI2
        have HK2 := Lib.hid (HK.out.trans hK2 (by simp))
        clear hI2 hK2 HI HK e0 e1
        go_wp2_with fail
        go_loopw [8] (fun i wx => ∃ q : Nat, q ≤ 32 ∧ i = .int .i64 q ∧ IPl W g r ⟨d, due⟩ wx ∧ Kp [g, r] w wx) (fun i _ => 32 - (intOf i).toNat)
        case atStart => exact ⟨0, by omega, rfl, HI2.out, HK2.out⟩
        case round =>
          obtain ⟨q, hq, rfl, hJ, hKq⟩ := hrel
          have HJ := Lib.hid hJ
          have HKq := Lib.hid hKq
          clear hJ hKq HI2 HK2
          by_cases hq2 : q < 32
          · have q0 : (0 : Int) ≤ (q : Int) := by omega
            have q1 : (q : Int) < 32 := by omega
            go_wp2_with fail
            refine (bits_any q wr (by omega) (by omega)).mono ?_
            rintro e w3 ⟨rfl, b3⟩
            have HJ3 := Lib.hid (HJ.out.on b3)
            have HK3 : Hid (Kp [g, r] w w3) := Lib.hid (HKq.out.trans (Kp.of_below (L := [g, r]) b3) (by simp))
            clear b3 HJ HKq
            generalize rbit (q : Int) 0 = t0 at *
            generalize rbit (q : Int) 1 = t1 at *
            generalize rbit (q : Int) 2 = t2 at *
            generalize rbit (q : Int) 3 = t3 at *
            generalize rbit (q : Int) 4 = t4 at *
            generalize rbit (q : Int) 5 = t5 at *
            generalize rbit (q : Int) 6 = t6 at *
            generalize rbit (q : Int) 7 = t7 at *
            go_wp2_with fail
            have A9 := Lib.hid ((Blk.new w3 77 #[.bool t0, .bool t1, .bool t2, .bool t3, .bool t4, .bool t5, .bool t6, .bool t7]).alloc (.cells #[.bool t0, .bool t1, .bool t2, .bool t3] 32))
            have A10 := Lib.hid (Blk.new (w3.alloc (.cells #[.bool t0, .bool t1, .bool t2, .bool t3, .bool t4, .bool t5, .bool t6, .bool t7] 77)) 32 #[.bool t0, .bool t1, .bool t2, .bool t3])
            rw [World.size_alloc] at A10
            have B4 : Below w3.heap.size w3 ((w3.alloc (.cells #[.bool t0, .bool t1, .bool t2, .bool t3, .bool t4, .bool t5, .bool t6, .bool t7] 77)).alloc (.cells #[.bool t0, .bool t1, .bool t2, .bool t3] 32)) := ((Below.refl _ _).alloc (Nat.le_refl _) _).alloc (by simp) _
            have HJ4 := Lib.hid (HJ3.out.on B4)
            have HK4 : Hid (Kp [g, r] w ((w3.alloc (.cells #[.bool t0, .bool t1, .bool t2, .bool t3, .bool t4, .bool t5, .bool t6, .bool t7] 77)).alloc (.cells #[.bool t0, .bool t1, .bool t2, .bool t3] 32))) := Lib.hid (HK3.out.trans (Kp.of_below (L := [g, r]) B4) (by simp))
            clear B4 HJ3 HK3
            generalize World.alloc _ _ = w4 at *
            generalize w3.heap.size = g9 at *
            have SB : ∀ w' : World, Blk w' g9 77 #[.bool t0, .bool t1, .bool t2, .bool t3, .bool t4, .bool t5, .bool t6, .bool t7] → Blk w' (g9 + 1) 32 #[.bool t0, .bool t1, .bool t2, .bool t3] →
                (w'.cell? ⟨g9, 2, none⟩ = some (.bool t2) ∧ w'.cell? ⟨g9, 3, none⟩ = some (.bool t3) ∧ w'.cell? ⟨g9, 4, none⟩ = some (.bool t4)) ∧ w'.cell? ⟨g9 + 1, 0, none⟩ = some (.bool t0) ∧ w'.cell? ⟨g9 + 1, 1, none⟩ = some (.bool t1) ∧ w'.cell? ⟨g9 + 1, 2, none⟩ = some (.bool t2) ∧ w'.cell? ⟨g9 + 1, 3, none⟩ = some (.bool t3) :=
              fun w' h h' => ⟨⟨h.cell 2, h.cell 3, h.cell 4⟩, h'.cell 0, h'.cell 1, h'.cell 2, h'.cell 3⟩
            have HSB := Lib.hid SB
            clear SB
            obtain ⟨x, hx⟩ : ∃ x, chI d due t0 t1 t2 t3 t4 = x := ⟨_, rfl⟩
            obtain ⟨y, hy⟩ : ∃ y, stV due t2 t3 = y := ⟨_, rfl⟩
            have HX := Lib.hid hx
            have HY := Lib.hid hy
            have nx : (x != x) = false := by simp
            have ny : (y != y) = false := by simp
            clear hx hy
            refine rg_begin (S := fun w' => (w'.cell? ⟨g9, 2, none⟩ = some (.bool t2) ∧ w'.cell? ⟨g9, 3, none⟩ = some (.bool t3) ∧ w'.cell? ⟨g9, 4, none⟩ = some (.bool t4)) ∧ w'.cell? ⟨g9 + 1, 0, none⟩ = some (.bool t0) ∧ w'.cell? ⟨g9 + 1, 1, none⟩ = some (.bool t1) ∧ w'.cell? ⟨g9 + 1, 2, none⟩ = some (.bool t2) ∧ w'.cell? ⟨g9 + 1, 3, none⟩ = some (.bool t3)) 26 #[false, false, false, false, false, false, false, false, false, false, false, false, false, false, false, false, false, false, false, false, false, false, false, false, false, false] (by kernel_rfl) (by kernel_rfl) (by kernel_rfl) ?_ (fun hHeld => ?_)
            · exact HSB.out _ A9.out.drew_ A10.out.drew_
            refine rg_take (i := 0) (d := some 70) (l := #[true, false, false, false, false, false, false, false, false, false, false, false, false, false, false, false, false, false, false, false, false, false, false, false, false, false]) (fuel := 25) (v := ?_) rfl (by kernel_rfl) (by kernel_rfl) (by kernel_rfl) (by kernel_rfl) (by kernel_rfl) (fun _ _ _ h => h) (by kernel_rfl) ?_ (by assumption) ?_
            rotate_left 1
            · (intro wS hSw; (try dsimp only at hSw); go_simp; try with_reducible rfl)
            try simp only [Act.put, List.setIfInBounds_toArray, List.set_cons_zero, List.set_cons_succ]
            refine rg_take (i := 1) (d := some 71) (l := #[true, true, false, false, false, false, false, false, false, false, false, false, false, false, false, false, false, false, false, false, false, false, false, false, false, false]) (fuel := 24) (v := ?_) rfl (by kernel_rfl) (by kernel_rfl) (by kernel_rfl) (by kernel_rfl) (by kernel_rfl) (fun _ _ _ h => h) (by kernel_rfl) ?_ (by assumption) ?_
            rotate_left 1
            · (intro wS hSw; (try dsimp only at hSw); go_simp; try with_reducible rfl)
            try simp only [Act.put, List.setIfInBounds_toArray, List.set_cons_zero, List.set_cons_succ]
            refine rg_take (i := 2) (d := some 72) (l := #[true, true, true, false, false, false, false, false, false, false, false, false, false, false, false, false, false, false, false, false, false, false, false, false, false, false]) (fuel := 23) (v := ?_) rfl (by kernel_rfl) (by kernel_rfl) (by kernel_rfl) (by kernel_rfl) (by kernel_rfl) (fun _ _ _ h => h) (by kernel_rfl) ?_ (by assumption) ?_
            rotate_left 1
            · (intro wS hSw; (try dsimp only at hSw); go_simp; try with_reducible rfl)
            try simp only [Act.put, List.setIfInBounds_toArray, List.set_cons_zero, List.set_cons_succ]
            refine rg_take (i := 3) (d := some 73) (l := #[true, true, true, true, false, false, false, false, false, false, false, false, false, false, false, false, false, false, false, false, false, false, false, false, false, false]) (fuel := 22) (v := ?_) rfl (by kernel_rfl) (by kernel_rfl) (by kernel_rfl) (by kernel_rfl) (by kernel_rfl) (fun _ _ _ h => h) (by kernel_rfl) ?_ (by assumption) ?_
            rotate_left 1
            · (intro wS hSw; (try dsimp only at hSw); go_simp; try with_reducible rfl)
            try simp only [Act.put, List.setIfInBounds_toArray, List.set_cons_zero, List.set_cons_succ]
            refine rg_take (i := 5) (d := some 75) (l := #[true, true, true, true, false, true, false, false, false, false, false, false, false, false, false, false, false, false, false, false, false, false, false, false, false, false]) (fuel := 21) (v := ?_) rfl (by kernel_rfl) (by kernel_rfl) (by kernel_rfl) (by kernel_rfl) (by kernel_rfl) (fun _ _ _ h => h) (by kernel_rfl) ?_ (by assumption) ?_
            rotate_left 1
            · (intro wS hSw; (try dsimp only at hSw); go_simp; try with_reducible rfl)
            try simp only [Act.put, List.setIfInBounds_toArray, List.set_cons_zero, List.set_cons_succ]
            refine rg_take (i := 6) (d := some 76) (l := #[true, true, true, true, false, true, true, false, false, false, false, false, false, false, false, false, false, false, false, false, false, false, false, false, false, false]) (fuel := 20) (v := ?_) rfl (by kernel_rfl) (by kernel_rfl) (by kernel_rfl) (by kernel_rfl) (by kernel_rfl) (fun _ _ _ h => h) (by kernel_rfl) ?_ (by assumption) ?_
            rotate_left 1
            · (intro wS hSw; (try dsimp only at hSw); go_simp; try with_reducible rfl)
            try simp only [Act.put, List.setIfInBounds_toArray, List.set_cons_zero, List.set_cons_succ]
            refine rg_take (i := 7) (d := some 77) (l := #[true, true, true, true, false, true, true, true, false, false, false, false, false, false, false, false, false, false, false, false, false, false, false, false, false, false]) (fuel := 19) (v := ?_) rfl (by kernel_rfl) (by kernel_rfl) (by kernel_rfl) (by kernel_rfl) (by kernel_rfl) (fun _ _ _ h => h) (by kernel_rfl) ?_ (by assumption) ?_
            rotate_left 1
            · (intro wS hSw; (try dsimp only at hSw); go_simp; try with_reducible rfl)
            try simp only [Act.put, List.setIfInBounds_toArray, List.set_cons_zero, List.set_cons_succ]
            refine rg_take (i := 8) (d := some 78) (l := #[true, true, true, true, false, true, true, true, true, false, false, false, false, false, false, false, false, false, false, false, false, false, false, false, false, false]) (fuel := 18) (v := ?_) rfl (by kernel_rfl) (by kernel_rfl) (by kernel_rfl) (by kernel_rfl) (by kernel_rfl) (fun _ _ _ h => h) (by kernel_rfl) ?_ (by assumption) ?_
            rotate_left 1
            · (intro wS hSw; (try dsimp only at hSw); go_simp; try with_reducible rfl)
            try simp only [Act.put, List.setIfInBounds_toArray, List.set_cons_zero, List.set_cons_succ]
            refine rg_next (i := 4) (l := #[true, true, true, true, true, true, true, true, true, false, false, false, false, false, false, false, false, false, false, false, false, false, false, false, false, false]) (fuel := 17) (by kernel_rfl) rfl (by kernel_rfl) (by kernel_rfl) (fun K hK => ?_)
            go_simp
            (go_at_call 14)
            have J5 := HJ4.out.kp0 (Kp.refl [] w4).drew
            refine (qchoose_v J5.1.1 HX.out).mono ?_
            rintro e w5 ⟨rfl, b5⟩
            have HJ5 := Lib.hid (J5.on b5)
            have A95 := Lib.hid (A9.out.drew_.below b5 A9.out.drew_.lt)
            have A105 := Lib.hid (A10.out.drew_.below b5 A10.out.drew_.lt)
            have HK5 : Hid (Kp [g, r] w w5) := Lib.hid (HK4.out.drew.trans (Kp.of_below (L := [g, r]) b5) (by simp))
            clear b5 J5 HJ4 A9 A10 HK4
            first | (refine hK.out _ _ ?_ (fun hHeld => ?_)) | (go_wp2_with fail; refine hK.out _ _ ?_ (fun hHeld => ?_))
            · (try dsimp only); exact HSB.out _ A95.out A105.out
            clear hK K
            try simp only [Act.put, List.setIfInBounds_toArray, List.set_cons_zero, List.set_cons_succ]
            refine rg_next (i := 9) (l := #[true, true, true, true, true, true, true, true, true, true, false, false, false, false, false, false, false, false, false, false, false, false, false, false, false, false]) (fuel := 16) (by kernel_rfl) rfl (by kernel_rfl) (by kernel_rfl) (fun K hK => ?_)
            go_simp
            (go_at_call 36)
            refine (rqchoose_any HJ5.out.2.1 t0 t1 t2 t3 t4).mono ?_
            dsimp only
            rw [HX.out]
            rintro e w6 ⟨rfl, b6⟩
            have HJ6 := Lib.hid (HJ5.out.on b6)
            have A96 := Lib.hid (A95.out.below b6 A95.out.lt)
            have A106 := Lib.hid (A105.out.below b6 A105.out.lt)
            have HK6 : Hid (Kp [g, r] w w6) := Lib.hid (HK5.out.trans (Kp.of_below (L := [g, r]) b6) (by simp))
            clear b6 HJ5 A95 A105 HK5
            first | (refine hK.out _ _ ?_ (fun hHeld => ?_)) | (go_wp2_with fail; refine hK.out _ _ ?_ (fun hHeld => ?_))
            · (try dsimp only); exact HSB.out _ A96.out A106.out
            clear hK K
            try simp only [Act.put, List.setIfInBounds_toArray, List.set_cons_zero, List.set_cons_succ]
            refine rg_take (i := 10) (d := some 80) (l := #[true, true, true, true, true, true, true, true, true, true, true, false, false, false, false, false, false, false, false, false, false, false, false, false, false, false]) (fuel := 15) (v := ?_) rfl (by kernel_rfl) (by kernel_rfl) (by kernel_rfl) (by kernel_rfl) (by kernel_rfl) (fun _ _ _ h => h) (by kernel_rfl) ?_ (by assumption) ?_
            rotate_left 1
            · (intro wS hSw; (try dsimp only at hSw); go_simp; try with_reducible rfl)
            try simp only [Act.put, List.setIfInBounds_toArray, List.set_cons_zero, List.set_cons_succ]
            refine rg_take (i := 11) (d := some 81) (l := #[true, true, true, true, true, true, true, true, true, true, true, true, false, false, false, false, false, false, false, false, false, false, false, false, false, false]) (fuel := 14) (v := ?_) rfl (by kernel_rfl) (by kernel_rfl) (by kernel_rfl) (by kernel_rfl) (by kernel_rfl) (fun _ _ _ h => h) (by kernel_rfl) ?_ (by assumption) ?_
            rotate_left 1
            · (intro wS hSw; (try dsimp only at hSw); go_simp; try with_reducible rfl)
            try simp only [Act.put, List.setIfInBounds_toArray, List.set_cons_zero, List.set_cons_succ]
            refine rg_take (i := 12) (d := some 82) (l := #[true, true, true, true, true, true, true, true, true, true, true, true, true, false, false, false, false, false, false, false, false, false, false, false, false, false]) (fuel := 13) (v := ?_) rfl (by kernel_rfl) (by kernel_rfl) (by kernel_rfl) (by kernel_rfl) (by kernel_rfl) (fun _ _ _ h => h) (by kernel_rfl) ?_ (by assumption) ?_
            rotate_left 1
            · (intro wS hSw; (try dsimp only at hSw); go_simp; try with_reducible rfl)
            try simp only [Act.put, List.setIfInBounds_toArray, List.set_cons_zero, List.set_cons_succ]
            refine rg_take (i := 13) (d := some 83) (l := #[true, true, true, true, true, true, true, true, true, true, true, true, true, true, false, false, false, false, false, false, false, false, false, false, false, false]) (fuel := 12) (v := ?_) rfl (by kernel_rfl) (by kernel_rfl) (by kernel_rfl) (by kernel_rfl) (by kernel_rfl) (fun _ _ _ h => h) (by kernel_rfl) ?_ (by assumption) ?_
            rotate_left 1
            · (intro wS hSw; (try dsimp only at hSw); go_simp; try with_reducible rfl)
            try simp only [Act.put, List.setIfInBounds_toArray, List.set_cons_zero, List.set_cons_succ]
            refine rg_take (i := 14) (d := some 84) (l := #[true, true, true, true, true, true, true, true, true, true, true, true, true, true, true, false, false, false, false, false, false, false, false, false, false, false]) (fuel := 11) (v := ?_) rfl (by kernel_rfl) (by kernel_rfl) (by kernel_rfl) (by kernel_rfl) (by kernel_rfl) (fun _ _ _ h => h) (by kernel_rfl) ?_ (by assumption) ?_
            rotate_left 1
            · (intro wS hSw; (try dsimp only at hSw); go_simp; try with_reducible rfl)
            try simp only [Act.put, List.setIfInBounds_toArray, List.set_cons_zero, List.set_cons_succ]
            refine rg_take (i := 15) (d := some 85) (l := #[true, true, true, true, true, true, true, true, true, true, true, true, true, true, true, true, false, false, false, false, false, false, false, false, false, false]) (fuel := 10) (v := ?_) rfl (by kernel_rfl) (by kernel_rfl) (by kernel_rfl) (by kernel_rfl) (by kernel_rfl) (fun _ _ _ h => h) (by kernel_rfl) ?_ (by assumption) ?_
            rotate_left 1
            · (intro wS hSw; (try dsimp only at hSw); go_simp; try with_reducible rfl)
            try simp only [Act.put, List.setIfInBounds_toArray, List.set_cons_zero, List.set_cons_succ]
            refine rg_take (i := 16) (d := some 86) (l := #[true, true, true, true, true, true, true, true, true, true, true, true, true, true, true, true, true, false, false, false, false, false, false, false, false, false]) (fuel := 9) (v := ?_) rfl (by kernel_rfl) (by kernel_rfl) (by kernel_rfl) (by kernel_rfl) (by kernel_rfl) (fun _ _ _ h => h) (by kernel_rfl) ?_ (by assumption) ?_
            rotate_left 1
            · (intro wS hSw; (try dsimp only at hSw); go_simp; try with_reducible rfl)
            try simp only [Act.put, List.setIfInBounds_toArray, List.set_cons_zero, List.set_cons_succ]
            refine rg_take (i := 18) (d := some 88) (l := #[true, true, true, true, true, true, true, true, true, true, true, true, true, true, true, true, true, false, true, false, false, false, false, false, false, false]) (fuel := 8) (v := ?_) rfl (by kernel_rfl) (by kernel_rfl) (by kernel_rfl) (by kernel_rfl) (by kernel_rfl) (fun _ _ _ h => h) (by kernel_rfl) ?_ (by assumption) ?_
            rotate_left 1
            · (intro wS hSw; (try dsimp only at hSw); go_simp; try with_reducible rfl)
            try simp only [Act.put, List.setIfInBounds_toArray, List.set_cons_zero, List.set_cons_succ]
            refine rg_take (i := 19) (d := some 89) (l := #[true, true, true, true, true, true, true, true, true, true, true, true, true, true, true, true, true, false, true, true, false, false, false, false, false, false]) (fuel := 7) (v := ?_) rfl (by kernel_rfl) (by kernel_rfl) (by kernel_rfl) (by kernel_rfl) (by kernel_rfl) (fun _ _ _ h => h) (by kernel_rfl) ?_ (by assumption) ?_
            rotate_left 1
            · (intro wS hSw; (try dsimp only at hSw); go_simp; try with_reducible rfl)
            try simp only [Act.put, List.setIfInBounds_toArray, List.set_cons_zero, List.set_cons_succ]
            refine rg_take (i := 20) (d := some 90) (l := #[true, true, true, true, true, true, true, true, true, true, true, true, true, true, true, true, true, false, true, true, true, false, false, false, false, false]) (fuel := 6) (v := ?_) rfl (by kernel_rfl) (by kernel_rfl) (by kernel_rfl) (by kernel_rfl) (by kernel_rfl) (fun _ _ _ h => h) (by kernel_rfl) ?_ (by assumption) ?_
            rotate_left 1
            · (intro wS hSw; (try dsimp only at hSw); go_simp; try with_reducible rfl)
            try simp only [Act.put, List.setIfInBounds_toArray, List.set_cons_zero, List.set_cons_succ]
            refine rg_take (i := 21) (d := some 91) (l := #[true, true, true, true, true, true, true, true, true, true, true, true, true, true, true, true, true, false, true, true, true, true, false, false, false, false]) (fuel := 5) (v := ?_) rfl (by kernel_rfl) (by kernel_rfl) (by kernel_rfl) (by kernel_rfl) (by kernel_rfl) (fun _ _ _ h => h) (by kernel_rfl) ?_ (by assumption) ?_
            rotate_left 1
            · (intro wS hSw; (try dsimp only at hSw); go_simp; try with_reducible rfl)
            try simp only [Act.put, List.setIfInBounds_toArray, List.set_cons_zero, List.set_cons_succ]
            refine rg_take (i := 22) (d := some 92) (l := #[true, true, true, true, true, true, true, true, true, true, true, true, true, true, true, true, true, false, true, true, true, true, true, false, false, false]) (fuel := 4) (v := ?_) rfl (by kernel_rfl) (by kernel_rfl) (by kernel_rfl) (by kernel_rfl) (by kernel_rfl) (fun _ _ _ h => h) (by kernel_rfl) ?_ (by assumption) ?_
            rotate_left 1
            · (intro wS hSw; (try dsimp only at hSw); go_simp; try with_reducible rfl)
            try simp only [Act.put, List.setIfInBounds_toArray, List.set_cons_zero, List.set_cons_succ]
            refine rg_next (i := 17) (l := #[true, true, true, true, true, true, true, true, true, true, true, true, true, true, true, true, true, true, true, true, true, true, true, false, false, false]) (fuel := 3) (by kernel_rfl) rfl (by kernel_rfl) (by kernel_rfl) (fun K hK => ?_)
            go_simp
            (go_at_call 17)
            refine (qstatus_v HJ6.out.1.1 HY.out).mono ?_
            rintro e w7 ⟨rfl, b7⟩
            have HJ7 := Lib.hid (HJ6.out.on b7)
            have A97 := Lib.hid (A96.out.below b7 A96.out.lt)
            have A107 := Lib.hid (A106.out.below b7 A106.out.lt)
            have HK7 : Hid (Kp [g, r] w w7) := Lib.hid (HK6.out.trans (Kp.of_below (L := [g, r]) b7) (by simp))
            clear b7 HJ6 A96 A106 HK6
            first | (refine hK.out _ _ ?_ (fun hHeld => ?_)) | (go_wp2_with fail; refine hK.out _ _ ?_ (fun hHeld => ?_))
            · (try dsimp only); exact HSB.out _ A97.out A107.out
            clear hK K
            try simp only [Act.put, List.setIfInBounds_toArray, List.set_cons_zero, List.set_cons_succ]
            refine rg_next (i := 23) (l := #[true, true, true, true, true, true, true, true, true, true, true, true, true, true, true, true, true, true, true, true, true, true, true, true, false, false]) (fuel := 2) (by kernel_rfl) rfl (by kernel_rfl) (by kernel_rfl) (fun K hK => ?_)
            go_simp
            (go_at_call 37)
            refine (rqstatus_any HJ7.out.2.1 t2 t3).mono ?_
            dsimp only
            rw [HY.out]
            rintro e w8 ⟨rfl, b8⟩
            have HJ8 := Lib.hid (HJ7.out.on b8)
            have A98 := Lib.hid (A97.out.below b8 A97.out.lt)
            have A108 := Lib.hid (A107.out.below b8 A107.out.lt)
            have HK8 : Hid (Kp [g, r] w w8) := Lib.hid (HK7.out.trans (Kp.of_below (L := [g, r]) b8) (by simp))
            clear b8 HJ7 A97 A107 HK7
            first | (refine hK.out _ _ ?_ (fun hHeld => ?_)) | (go_wp2_with fail; refine hK.out _ _ ?_ (fun hHeld => ?_))
            · (try dsimp only); exact HSB.out _ A98.out A108.out
            clear hK K
            try simp only [Act.put, List.setIfInBounds_toArray, List.set_cons_zero, List.set_cons_succ]
            refine rg_take (i := 24) (d := some 94) (l := #[true, true, true, true, true, true, true, true, true, true, true, true, true, true, true, true, true, true, true, true, true, true, true, true, true, false]) (fuel := 1) (v := ?_) rfl (by kernel_rfl) (by kernel_rfl) (by kernel_rfl) (by kernel_rfl) (by kernel_rfl) (fun _ _ _ h => h) (by kernel_rfl) ?_ (by assumption) ?_
            rotate_left 1
            · (intro wS hSw; (try dsimp only at hSw); go_simp; try with_reducible rfl)
            try simp only [Act.put, List.setIfInBounds_toArray, List.set_cons_zero, List.set_cons_succ]
            refine rg_take (i := 25) (d := some 95) (l := #[true, true, true, true, true, true, true, true, true, true, true, true, true, true, true, true, true, true, true, true, true, true, true, true, true, true]) (fuel := 0) (v := ?_) rfl (by kernel_rfl) (by kernel_rfl) (by kernel_rfl) (by kernel_rfl) (by kernel_rfl) (fun _ _ _ h => h) (by kernel_rfl) ?_ (by assumption) ?_
            rotate_left 1
            · (intro wS hSw; (try dsimp only at hSw); go_simp; try with_reducible rfl)
            try simp only [Act.put, List.setIfInBounds_toArray, List.set_cons_zero, List.set_cons_succ]
            refine wpAnyH_done (by kernel_rfl) ?_ _
            clear hHeld
            go_wp2_with fail
            go_roundw
            case rel => exact ⟨q + 1, by omega, by go_num, HJ8.out, HK8.out⟩
            case measure => simp [intOf]; omega
          · obtain rfl : q = 32 := by omega
            have nd : ((d : Int) != d) = false := by simp
            have ne : (due != due) = false := by simp
            have d0 : wr.cell? ⟨r, 0, none⟩ = some (.int .u8 d) := HJ.out.2.1.1.cell 0
            have d1 : wr.cell? ⟨r, 1, none⟩ = some (.bool due) := HJ.out.2.1.1.cell 1
            go_wp2_with fail
            go_quiet ((first | (go_at_call 12; exact Calls.quiet_of_same ((qdisable_v (s := ⟨d, due⟩) (by exact HJ.out.1.1) (x := d) rfl).mono fun _ _ h => ⟨h.1, h.2.symm⟩)) | (go_at_call 13; exact Calls.quiet_of_same ((qdue_v (s := ⟨d, due⟩) (by exact HJ.out.1.1) (x := due) rfl).mono fun _ _ h => ⟨h.1, h.2.symm⟩))))
            go_wp2_with fail
            go_roundw
            case rel => exact ⟨k + 1, by omega, by go_num, ⟨_, HJ.out.kp0 ((Kp.refl _ _).drewN _)⟩, HKq.out.drewN _⟩
            case measure => simp [intOf]; omega
    · obtain rfl : k = m := by omega
      clear hI hK H
      go_wp2_with fail
      go_ret
      exact ⟨rfl, ⟨s, HI.out⟩, HK.out⟩
end Go.Proofs.Ytjknjlkjpccibaa
