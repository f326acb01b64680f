/-
  The statements' first test of package port holds; ports and the reference's go on alike.
-/
import Derived.Test.YtbdmpgpdnnjmpaaPort3
import Derived.Test.YtbdmpgpdnnjmpaaG20
import Derived.Deep.Cut
import Derived.Deep.CutRange
namespace Go.Proofs.Ytbdmpgpdnnjmpaa
open Go.RowKit
set_option linter.unusedVariables false
set_option linter.unusedSimpArgs false
set_option maxRecDepth 100000
section
variable {w : World} {g cb n : Nat} {z : Nat → Int} {q : Nat} {s s' : Pt}
def P0R (v : Value) (g cb n : Nat) (z : Nat → Int) (q : Nat) (s : Pt) (L : List Nat) (w : World) (e : Ending) (w' : World) : Prop := e = .returned v ∧ P0 w' g cb n z q s ∧ Kp L w w'
theorem pwrite_v (h : P0 w g cb n z q s) {b : Int} (b0 : 0 ≤ b) (b1 : b ≤ 255) (e : s.wr b = s') :
    Calls Try.prog 31 #[.pointer (some ⟨g, 0, none⟩), .int .u8 b] w (P0R (.tuple #[]) g cb n z q s' [g] w) := e ▸ pwrite_any h b b0 b1
theorem pread_v (h : P0 w g cb n z q s) (hq : q ≤ 1000000000) {x : Int} {q' : Nat} (e : s.val (peekI (n - q) (fun i => z (q + i)) 0) = x) (e' : (if s.takes then q + 1 else q) = q') :
    Calls Try.prog 32 #[.pointer (some ⟨g, 0, none⟩)] w (P0R (.int .u8 x) g cb n z q' s [g, cb] w) := by
  subst e e'
  exact pread_any h hq
theorem ppad_v (h : P0 w g cb n z q s) {x : Int} (e : (s.p : Int) = x) : Calls Try.prog 29 #[.pointer (some ⟨g, 0, none⟩)] w fun e w' => e = .returned (.int .i64 x) ∧ w = w' := e ▸ ppad_any h
theorem pselect_v (h : P0 w g cb n z q s) {x : Int} (e : (s.l : Int) = x) : Calls Try.prog 41 #[.pointer (some ⟨g, 0, none⟩)] w fun e w' => e = .returned (.int .u8 x) ∧ w = w' := e ▸ pselect_any h
theorem ptaken_v (h : P0 w g cb n z q s) {x : Int} (e : (q : Int) = x) : Calls Try.prog 30 #[.pointer (some ⟨g, 0, none⟩)] w fun e w' => e = .returned (.int .i64 x) ∧ w = w' := e ▸ ptaken_any h
theorem P0.off (h : P0 w g cb n z q s) : ∀ x ∈ [g, cb], ∃ t cs, Blk w x t cs ∧ 5 ≠ t := fun x hx => by
  obtain ⟨⟨hg, ⟨_, h2, _⟩, v, hc, _⟩, _⟩ := h
  rcases (by simpa using hx : x = g ∨ x = cb) with rfl | rfl
  · exact ⟨_, _, hg, h2⟩
  · exact ⟨_, _, hc, by decide⟩
end
/-- A port by itself, over its world's beginning. -/
def PB (B : Nat) (W : World) (g cb n : Nat) (z : Nat → Int) (q : Nat) (s : Pt) (w : World) : Prop := P0 w g cb n z q s ∧ Below B W w ∧ B ≤ w.heap.size ∧ B ≤ g ∧ B ≤ cb
theorem PB.go {B : Nat} {W w w' : World} {g cb n : Nat} {z : Nat → Int} {q q' : Nat} {s s' : Pt} {L : List Nat} (h : PB B W g cb n z q s w) (h' : P0 w' g cb n z q' s') (k : Kp L w w') (hL : ∀ x ∈ L, x = g ∨ x = cb) : PB B W g cb n z q' s' w' := by
  obtain ⟨h1, h2, h3, h4, h5⟩ := h
  exact ⟨h', k.onto h2 h3 (fun x hx => by rcases hL x hx with rfl | rfl <;> assumption), Nat.le_trans h3 k.size, h4, h5⟩
theorem two_irow {w : World} {b : Int} (hb : (Lit.int .u8 b).wf = true) : IRow (w.alloc (.cells #[.int .u8 b, .int .u8 b] 5)) .u8 (some ⟨w.heap.size, 0, none⟩) 2 (fun _ => b) := fun i hi => by
  have h := Blk.new w 5 #[.int .u8 b, .int .u8 b]
  refine ⟨_, rfl, by simp, ?_, hb⟩
  rw [add_zero_block, h.cell]
  have : i = 0 ∨ i = 1 := by omega
  rcases this with rfl | rfl <;> rfl
/-- A new port over two bytes that are alike. -/
theorem pnew_two {w : World} {b : Int} {B : Nat} {W : World} (hb : (Lit.int .u8 b).wf = true) (h : Below B W w) (hB : B ≤ w.heap.size) :
    Calls Try.prog 24 #[.slice (some ⟨w.heap.size, 0, none⟩) 2 2] (w.alloc (.cells #[.int .u8 b, .int .u8 b] 5)) fun e w' => ∃ g cb, e = .returned (.pointer (some ⟨g, 0, none⟩)) ∧ PB B W g cb 2 (fun _ => b) 0 ⟨0, 0⟩ w' := by
  refine (pnew_any (some ⟨w.heap.size, 0, none⟩) 2 2 (fun _ => b) (fun x => by cases x) (by omega) (two_irow hb)).mono ?_
  rintro e w' ⟨g, cb, rfl, h1, h2, h3, h4⟩
  have s1 : w.heap.size < (w.alloc (.cells #[.int .u8 b, .int .u8 b] 5)).heap.size := by simp
  have hA : Below B W (w.alloc (.cells #[.int .u8 b, .int .u8 b] 5)) := h.alloc hB _
  have s2 := h4.size
  exact ⟨g, cb, rfl, h3, hA.trans (h4.mono (by omega)), by omega, by omega, by omega⟩
set_option maxHeartbeats 4000000 in
theorem liveP_any (w : World) : Calls Try.prog 23 #[] w fun e w' => e = .returned (.bool true) ∧ Below w.heap.size w w' := by
  obtain ⟨B, hB⟩ : ∃ B, w.heap.size = B := ⟨_, rfl⟩
  have hb0 : Below B w w := by rw [← hB]; exact Below.refl _ _
  have HB0 := Lib.hid hb0
  have HBB := Lib.hid hB
  clear hb0 hB
  go_enter Try.func23, Try.ntmps23
  go_wp2_with fail
  refine (pnew_two (b := 90) (by decide) HB0.out (by rw [HBB.out]; exact Nat.le_refl _)).mono ?_
  rintro e w1 ⟨g, cb, rfl, t1⟩
  have T1 := Lib.hid t1
  clear t1
  go_wp2_with fail
  refine (pread_v T1.out.1 (by omega) (x := 186) (q' := 1) (by kernel_rfl) (by decide)).mono ?_
  rintro e w2 ⟨rfl, t2, k2⟩
  have T2 := Lib.hid (T1.out.go t2 k2 (by simp))
  clear t2 k2 T1
  go_wp2_with fail
  refine (pwrite_v T2.out.1 (by omega) (by omega) (s' := ⟨1, 1⟩) (by kernel_rfl)).mono ?_
  rintro e w3 ⟨rfl, t3, k3⟩
  have T3 := Lib.hid (T2.out.go t3 k3 (by simp))
  clear t3 k3 T2
  go_wp2_with fail
  refine (ppad_v T3.out.1 (x := 1) rfl).mono ?_
  rintro e w' ⟨rfl, rfl⟩
  go_wp2_with fail
  refine (pread_v T3.out.1 (by omega) (x := 181) (q' := 2) (by kernel_rfl) (by decide)).mono ?_
  rintro e w4 ⟨rfl, t4, k4⟩
  have T4 := Lib.hid (T3.out.go t4 k4 (by simp))
  clear t4 k4 T3
  go_wp2_with fail
  refine (pwrite_v T4.out.1 (by omega) (by omega) (s' := ⟨2, 0⟩) (by kernel_rfl)).mono ?_
  rintro e w5 ⟨rfl, t5, k5⟩
  have T5 := Lib.hid (T4.out.go t5 k5 (by simp))
  clear t5 k5 T4
  go_wp2_with fail
  refine (pread_v T5.out.1 (by omega) (x := 176) (q' := 2) (by kernel_rfl) (by decide)).mono ?_
  rintro e w6 ⟨rfl, t6, k6⟩
  have T6 := Lib.hid (T5.out.go t6 k6 (by simp))
  clear t6 k6 T5
  go_wp2_with fail
  refine (pwrite_nil _ _).mono ?_
  rintro e w' ⟨rfl, rfl⟩
  go_wp2_with fail
  refine (ptaken_v T6.out.1 (x := 2) rfl).mono ?_
  rintro e w' ⟨rfl, rfl⟩
  go_wp2_with fail
  refine (pselect_v T6.out.1 (x := 2) rfl).mono ?_
  rintro e w' ⟨rfl, rfl⟩
  go_wp2_with fail
  refine (ppad_v T6.out.1 (x := 0) rfl).mono ?_
  rintro e w' ⟨rfl, rfl⟩
  go_wp2_with fail
  refine (pread_nil _).mono ?_
  rintro e w' ⟨rfl, rfl⟩
  go_wp2_with fail
  refine (ppad_nil _).mono ?_
  rintro e w' ⟨rfl, rfl⟩
  go_wp2_with fail
  refine (pclone_nil _).mono ?_
  rintro e w' ⟨rfl, rfl⟩
  go_wp2_with fail
  refine (ptaken_nil _).mono ?_
  rintro e w' ⟨rfl, rfl⟩
  go_wp2_with fail
  go_ret
  exact ⟨rfl, by rw [HBB.out]; exact T6.out.2.1⟩
/-- A port and the reference's, alike. -/
def PPl (W : World) (g cb r : Nat) (A : Option Addr) (n c : Nat) (z : Nat → Int) (q : Nat) (s : Pt) (w : World) : Prop := P0 w g cb n z q s ∧ RP w r A n c q s ∧ Below W.heap.size W w
def PPlR (W : World) (g cb r : Nat) (A : Option Addr) (n c : Nat) (z : Nat → Int) (m q : Nat) (w : World) (e : Ending) (w' : World) : Prop :=
  e = .returned (.bool true) ∧ (∃ q' s, q' ≤ q + m ∧ PPl W g cb r A n c z q' s w') ∧ Kp [g, cb, r] w w'
section
variable {W w w1 w2 w' : World} {g cb r : Nat} {A : Option Addr} {n c : Nat} {z : Nat → Int} {q q' : Nat} {s s' : Pt}
theorem PPl.ne (h : PPl W g cb r A n c z q s w) : g ≠ r ∧ cb ≠ r := by
  obtain ⟨⟨⟨hg, _, v, hc, _⟩, _⟩, hr, _⟩ := h
  exact ⟨hg.ne_ hr.1 (by decide), hc.ne_ hr.1 (by decide)⟩
theorem rp_off {t : Nat} (h : RP w r A n c t s) : ∀ x ∈ [r], ∃ t cs, Blk w x t cs ∧ 5 ≠ t := fun x hx => by
  obtain rfl : x = r := by simpa using hx
  exact ⟨_, _, h.1, by decide⟩
theorem PPl.kp0 (h : PPl W g cb r A n c z q s w) (k : Kp [] w w') : PPl W g cb r A n c z q s w' := ⟨PT.kp h.1 k (fun x hx => by cases hx) (by simp) (by simp), h.2.1.kp k (by simp), k.onto h.2.2 h.2.2.size (by simp)⟩
/-- One of both goes on, then the other. -/
theorem PPl.two {L : List Nat} (h : PPl W g cb r A n c z q s w) (hg : W.heap.size ≤ g ∧ W.heap.size ≤ cb ∧ W.heap.size ≤ r) (hL : ∀ x ∈ L, x = g ∨ x = cb) (h1 : P0 w1 g cb n z q' s') (k1 : Kp L w w1) (h2 : RP w2 r A n c q' s') (k2 : Kp [r] w1 w2) (hr1 : RP w1 r A n c q s) :
    PPl W g cb r A n c z q' s' w2 ∧ Kp [g, cb, r] w w2 := by
  obtain ⟨n1, n2⟩ := h.ne
  refine ⟨⟨PT.kp h1 k2 (rp_off hr1) (by simpa using n1) (by simpa using n2), h2, k2.onto (k1.onto h.2.2 h.2.2.size (fun x hx => (hL x hx).elim (fun e => e ▸ hg.1) (fun e => e ▸ hg.2.1))) (Nat.le_trans h.2.2.size k1.size) (by simpa using hg.2.2)⟩, ?_⟩
  exact (k1.mono (fun x hx => by rcases hL x hx with rfl | rfl <;> simp)).trans (k2.mono (M := [g, cb, r]) (by simp)) (by simp)
end
theorem pstepCells {w : World} {A : Option Addr} {n : Nat} {qs : Nat → Bool × Int} (Q : FRow w 2 A n (fun i => biV .u8 (qs i))) (k : Nat) (hk : k < n) : ∃ ad : Addr, A = some ad ∧ ad.block < w.heap.size ∧ w.cell? (ad.add (k * 2)) = some (.bool (qs k).1) ∧
    w.cell? ⟨(ad.add (k * 2)).block, (ad.add (k * 2)).off + 1, none⟩ = some (.int .u8 (qs k).2) := by
  obtain ⟨ad, e, hl, q0, q1, _⟩ := FRow.at_ Q k hk
  exact ⟨ad, e, hl, q0 (by decide), q1 (by decide)⟩
set_option maxHeartbeats 8000000 in
theorem pplay_any {W w : World} {g cb r : Nat} {A : Option Addr} {n c : Nat} {z : Nat → Int} {q : Nat} {s : Pt} {m cm : Nat} {A2 : Option Addr} {qs : Nat → Bool × Int} (h : PPl W g cb r A n c z q s w) (R : IRow W .u8 A n z) (hn : n ≤ 140737488355328)
    (Q : FRow W 2 A2 m (fun i => biV .u8 (qs i))) (F : ∀ i, i < m → (Lit.int .u8 (qs i).2).wf = true) (hg : W.heap.size ≤ g ∧ W.heap.size ≤ cb ∧ W.heap.size ≤ r) (hm : m ≤ 200) (hq : q ≤ 200) :
    Calls Try.prog 26 #[.pointer (some ⟨g, 0, none⟩), .pointer (some ⟨r, 0, none⟩), .slice A2 m cm] w (PPlR W g cb r A n c z m q w) := by
  have H := Lib.hid h
  have HR := Lib.hid R
  have HQ := Lib.hid Q
  have HF := Lib.hid F
  have HG := Lib.hid hg
  clear h R Q F hg
  go_enter Try.func26, Try.ntmps26
  go_wp2_with fail
  go_loopw [7] (fun i wr => ∃ k : Nat, k ≤ m ∧ i = .int .i64 k ∧ (∃ q' s, q' ≤ q + k ∧ PPl W g cb r A n c z q' s wr) ∧ Kp [g, cb, r] w wr) (fun i _ => m - (intOf i).toNat)
  case atStart => exact ⟨0, Nat.zero_le _, rfl, ⟨q, s, by omega, H.out⟩, Kp.refl _ _⟩
  case round =>
    obtain ⟨k, hk, rfl, ⟨q1, s, hq1, hI⟩, hK⟩ := hrel
    have HI := Lib.hid hI
    have HK := Lib.hid hK
    by_cases hlt : k < m
    · obtain ⟨ad, rfl, hl, e0, e1⟩ := pstepCells (FRow.keep HQ.out hI.2.2) k hlt
      have hag : ad.block < W.heap.size := by
        obtain ⟨ad2, e2, hl2, _⟩ := HQ.out k hlt
        cases e2
        exact hl2
      obtain ⟨b0, b1⟩ := bounds_u8 (HF.out k hlt)
      generalize (qs k).1 = wrt at *
      generalize (qs k).2 = b at *
      have i0 : (0 : Int) ≤ (k : Int) := by omega
      have i1 : (k : Int) < m := by omega
      have gg := HG.out
      clear hI hK H
      go_upto_if 18 with fail
      go_cut [7] from 8 to 63 (fun i wx => i = .int .i64 k ∧ (∃ q' s, q' ≤ q1 + 1 ∧ PPl W g cb r A n c z q' s wx) ∧ Kp [g, cb, r] wr wx)
      case first =>
        cases wrt with
        | true =>
          go_wp2_with fail
          refine (pwrite_v HI.out.1 b0 b1 rfl).mono ?_
          rintro e w1 ⟨rfl, y1, y2⟩
          have e11 : w1.cell? ⟨(ad.add (k * 2)).block, (ad.add (k * 2)).off + 1, none⟩ = some (.int .u8 b) := (y2.cell (p := ⟨(ad.add (k * 2)).block, (ad.add (k * 2)).off + 1, none⟩) (by rw [block_of_add]; exact hl) (by rw [block_of_add]; simp; omega)).trans e1
          have R1 := Lib.hid (HI.out.2.1.kp y2 (by simpa using HI.out.ne.1.symm))
          have Y1 := Lib.hid y1
          have Y2 := Lib.hid y2
          clear y1 y2 e0 e1
          go_wp2_with fail
          refine (rpwrite_any R1.out b b0 b1).mono ?_
          rintro e w2 ⟨rfl, z1, z2⟩
          have X := Lib.hid (HI.out.two gg (by simp) Y1.out Y2.out z1 z2 R1.out)
          clear z1 z2 e11
          go_wp2_with fail
          go_meet
          case rel => exact ⟨rfl, ⟨q1, _, by omega, X.out.1⟩, X.out.2⟩
        | false =>
          have hby := FP.byte HI.out.1.1 0
          obtain ⟨v, hv⟩ : ∃ v, s.val (peekI (n - q1) (fun i => z (q1 + i)) 0) = v := ⟨_, rfl⟩
          obtain ⟨q2, hq2⟩ : ∃ q2, (if s.takes then q1 + 1 else q1) = q2 := ⟨_, rfl⟩
          have hq3 : q2 ≤ q1 + 1 := by rw [← hq2]; split <;> omega
          have HV := Lib.hid hv
          have HQ2 := Lib.hid hq2
          have HBY := Lib.hid hby
          have nv : (v != v) = false := by simp
          clear hv hq2 hby
          go_wp2_with fail
          refine (pread_v HI.out.1 (by omega) HV.out HQ2.out).mono ?_
          rintro e w1 ⟨rfl, y1, y2⟩
          have R1 := Lib.hid (HI.out.2.1.kp y2 (by simp; exact ⟨HI.out.ne.1.symm, HI.out.ne.2.symm⟩))
          have Y1 := Lib.hid y1
          have Y2 := Lib.hid y2
          clear y1 y2 e0 e1
          go_wp2_with fail
          have hW1 : Below W.heap.size W w1 := Y2.out.onto HI.out.2.2 HI.out.2.2.size (by simp; exact ⟨gg.1, gg.2.1⟩)
          refine (rpread_any R1.out (HR.out.keep hW1) hn (by omega) HBY.out).mono ?_
          rw [HV.out, HQ2.out]
          rintro e w2 ⟨rfl, z1, z2⟩
          have X := Lib.hid (HI.out.two gg (by simp) Y1.out Y2.out z1 z2 R1.out)
          clear z1 z2
          go_wp2_with fail
          go_meet
          case rel => exact ⟨rfl, ⟨q2, s, hq3, X.out.1⟩, X.out.2⟩
      case rest =>
        obtain ⟨rfl, ⟨q2, s2, hq2, hI2⟩, hK2⟩ := hcut
        have HI2 := Lib.hid hI2
        have HK2 := Lib.hid (HK.out.trans hK2 (by simp))
        obtain ⟨d0, d1, d2, d3⟩ := hI2.2.1.cells
        obtain ⟨l, p⟩ := s2
        dsimp only at d0 d1 d2 d3
        have n0 : ((l : Int) != l) = false := by simp
        have n1 : ((p : Int) != p) = false := by simp
        have n2 : ((q2 : Int) != q2) = false := by simp
        clear hI2 hK2 HI HK e0 e1
        go_wp2_with fail
        go_quiet ((first | (go_at_call 29; exact Calls.quiet_of_same ((ppad_v (s := ⟨l, p⟩) (by exact HI2.out.1) (x := p) rfl).mono fun _ _ h => ⟨h.1, h.2.symm⟩)) | (go_at_call 41; exact Calls.quiet_of_same ((pselect_v (s := ⟨l, p⟩) (by exact HI2.out.1) (x := l) rfl).mono fun _ _ h => ⟨h.1, h.2.symm⟩)) | (go_at_call 30; exact Calls.quiet_of_same ((ptaken_v (s := ⟨l, p⟩) (by exact HI2.out.1) (x := q2) rfl).mono fun _ _ h => ⟨h.1, h.2.symm⟩))))
        go_wp2_with fail
        go_roundw
        case rel => exact ⟨k + 1, by omega, by go_num, ⟨q2, _, by omega, HI2.out.kp0 ((Kp.refl _ _).drewN _)⟩, HK2.out.drewN _⟩
        case measure => simp [intOf]; omega
    · obtain rfl : k = m := by omega
      clear hI hK H
      go_wp2_with fail
      go_ret
      exact ⟨rfl, ⟨q1, s, hq1, HI.out⟩, HK.out⟩
end Go.Proofs.Ytbdmpgpdnnjmpaa
