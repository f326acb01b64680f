/-
  Noise and the reference's go on alike: play.
-/
import Derived.Test.YtcnjekballnncaaNoi9
import Derived.Test.YtcnjekballnncaaG21
import Derived.Deep.RegionHeld3
import Derived.Deep.Cut
import Derived.Deep.CutRange
namespace Go.Proofs.Ytcnjekballnncaa
open Go.RowKit
set_option linter.unusedVariables false
set_option linter.unusedSimpArgs false
set_option maxRecDepth 100000
theorem fkCells3 {w : World} {A : Option Addr} {n : Nat} {qs : Nat → Nat → Value} (Q : FRow w 3 A n qs) (k : Nat) (hk : k < n) : ∃ ad : Addr, A = some ad ∧ ad.block < w.heap.size ∧ w.cell? (ad.add (k * 3)) = some (qs k 0) ∧
    w.cell? ⟨(ad.add (k * 3)).block, (ad.add (k * 3)).off + 1, none⟩ = some (qs k 1) ∧ w.cell? ⟨(ad.add (k * 3)).block, (ad.add (k * 3)).off + 2, none⟩ = some (qs k 2) := by
  obtain ⟨ad, e, hl, q0, q1, q2⟩ := FRow.at_ Q k hk
  exact ⟨ad, e, hl, q0 (by decide), q1 (by decide), q2 (by decide)⟩
/-- Noise and the reference's, alike. -/
def NPl (W : World) (g r : Nat) (x : Nz) (w : World) : Prop := N0 w g x ∧ RNZ w r x ∧ Below W.heap.size W w
def NPlR (W : World) (g r : Nat) (w : World) (e : Ending) (w' : World) : Prop := e = .returned (.bool true) ∧ (∃ x, NPl W g r x w') ∧ Kp [g, r] w w'
section
variable {W w w1 w2 w' : World} {g r : Nat} {x x' : Nz}
theorem NPl.ne (h : NPl W g r x w) : g ≠ r := h.1.1.ne_ h.2.1.1 (by decide)
theorem NPl.kp0 (h : NPl W g r x w) (k : Kp [] w w') : NPl W g r x w' := ⟨NZ.kp h.1 k (by simp), h.2.1.kp k (by simp), k.onto h.2.2 h.2.2.size (by simp)⟩
theorem NPl.two (h : NPl W g r x w) (hg : W.heap.size ≤ g ∧ W.heap.size ≤ r) (h1 : N0 w1 g x') (k1 : Kp [g] w w1) (h2 : RNZ w2 r x') (k2 : Kp [r] w1 w2) : NPl W g r x' w2 ∧ Kp [g, r] w w2 := by
  have hne := h.ne
  exact ⟨⟨NZ.kp h1 k2 (by simpa using hne), h2, k2.onto (k1.onto h.2.2 h.2.2.size (by simpa using hg.1)) (Nat.le_trans h.2.2.size k1.size) (by simpa using hg.2)⟩, (k1.mono (by simp)).trans (k2.mono (M := [g, r]) (by simp)) (by simp)⟩
end
theorem nzN_ok (x : Nz) (h : x.ok) : True := trivial
set_option maxHeartbeats 8000000 in
theorem nplay_any {W w : World} {g r m cm : Nat} {x : Nz} {A : Option Addr} {qs : Nat → Nat → Value} (h : NPl W g r x w) (Q : FRow W 3 A m qs)
    (F : ∀ i, i < m → ∀ (j : Nat) (k : FK), [FK.bool, .int .u8, .int .u16][j]? = some k → k.ok (qs i j)) (hm : m ≤ 60) (hg : W.heap.size ≤ g ∧ W.heap.size ≤ r) :
    Calls Try.prog 22 #[.pointer (some ⟨g, 0, none⟩), .pointer (some ⟨r, 0, none⟩), .slice A m cm] w (NPlR W g r w) := by
  have H := Lib.hid h
  have HQ := Lib.hid Q
  have HF := Lib.hid F
  have HG := Lib.hid hg
  clear h Q F hg
  go_enter Try.func22, Try.ntmps22
  go_wp2_with fail
  go_loopw [7] (fun i wr => ∃ k : Nat, k ≤ m ∧ i = .int .i64 k ∧ (∃ x, NPl W g r x wr) ∧ Kp [g, r] w wr) (fun i _ => m - (intOf i).toNat)
  case atStart => exact ⟨0, Nat.zero_le _, rfl, ⟨x, H.out⟩, Kp.refl _ _⟩
  case round =>
    obtain ⟨k, hk, rfl, ⟨x, hI⟩, hK⟩ := hrel
    have HI := Lib.hid hI
    have HK := Lib.hid hK
    by_cases hlt : k < m
    · obtain ⟨ad, rfl, hl, e0, e1, e2⟩ := fkCells3 (FRow.keep HQ.out hI.2.2) k hlt
      have hag : ad.block < W.heap.size := by
        obtain ⟨ad2, z, hl2, _⟩ := fkCells3 HQ.out k hlt
        cases z; exact hl2
      obtain ⟨sb, hsb⟩ := HF.out k hlt 0 _ rfl
      obtain ⟨b, hb, wb⟩ := HF.out k hlt 1 _ rfl
      obtain ⟨n, hn, wn⟩ := HF.out k hlt 2 _ rfl
      rw [hsb] at e0
      rw [hb] at e1
      rw [hn] at e2
      obtain ⟨b0, b1⟩ := bounds_u8 wb
      obtain ⟨n0, n1⟩ := bounds_u16 wn
      obtain ⟨n, rfl⟩ := Int.eq_ofNat_of_zero_le n0
      have i0 : (0 : Int) ≤ (k : Int) := by omega
      have i1 : (k : Int) < m := by omega
      clear hI hK H wb wn hsb hb hn
      have gg := HG.out
      have hne := HI.out.ne
      go_upto_if 18 with fail
      go_cut [7] from 8 to 72 (fun i wx => i = .int .i64 k ∧ (∃ x, NPl W g r x wx) ∧ Kp [g, r] wr wx)
      case first =>
        cases sb with
        | true =>
          go_wp2_with fail
          refine (nset_any HI.out.1 b b0 b1).mono ?_
          rintro e w1 ⟨rfl, y1, y2⟩
          have r1 := HI.out.2.1.kp y2 (by simpa using hne.symm)
          have c1 : w1.cell? ⟨(ad.add (k * 3)).block, (ad.add (k * 3)).off + 1, none⟩ = some (.int .u8 b) := (y2.cell (p := ⟨(ad.add (k * 3)).block, (ad.add (k * 3)).off + 1, none⟩) (by rw [block_of_add]; exact hl) (by rw [block_of_add]; simp; omega)).trans e1
          obtain ⟨d0, d1, d2⟩ := r1.cells
          have f2 := r1.1.frozen 2
          obtain ⟨p1, p2⟩ := r1.put (k := 2) (v := .int .u8 b) (x' := x.set b) rfl (Nz.set_ok r1.2 b0 b1)
          have X := Lib.hid (HI.out.two gg y1 y2 p1 p2)
          clear r1 p1 p2 y1 y2 e0 e1 e2
          go_wp2_with fail
          go_meet
          case rel => exact ⟨rfl, ⟨_, X.out.1⟩, X.out.2⟩
        | false =>
          go_wp2_with fail
          refine (ngo_v HI.out.1 n rfl (by omega) rfl).mono ?_
          rintro e w1 ⟨rfl, y1, y2⟩
          have c2 : w1.cell? ⟨(ad.add (k * 3)).block, (ad.add (k * 3)).off + 2, none⟩ = some (.int .u16 n) := (y2.cell (p := ⟨(ad.add (k * 3)).block, (ad.add (k * 3)).off + 2, none⟩) (by rw [block_of_add]; exact hl) (by rw [block_of_add]; simp; omega)).trans e2
          have R1 := Lib.hid (HI.out.2.1.kp y2 (by simpa using hne.symm))
          have Y1 := Lib.hid y1
          have Y2 := Lib.hid y2
          clear y1 y2 e0 e1 e2
          go_wp2_with fail
          refine (rngo_any R1.out n (by omega)).mono ?_
          rintro e w2 ⟨rfl, z1, z2⟩
          have X := Lib.hid (HI.out.two gg Y1.out Y2.out z1 z2)
          clear z1 z2 c2
          go_wp2_with fail
          go_meet
          case rel => exact ⟨rfl, ⟨_, X.out.1⟩, X.out.2⟩
      case rest =>
        obtain ⟨rfl, ⟨y, hI2⟩, hK2⟩ := hcut
        have HI2 := Lib.hid hI2
        have HK2 := Lib.hid (HK.out.trans hK2 (by simp))
        obtain ⟨d0, d1, d2⟩ := hI2.2.1.cells
        have n0 : ((y.st : Int) != y.st) = false := by simp
        have n1 : ((y.left : Int) != y.left) = false := by simp
        have n2 : ((lvN y.st : Int) != lvN y.st) = false := by simp
        clear hI2 hK2 HI HK e0 e1 e2
        go_wp2_with fail
        go_quiet ((first | (go_at_call 25; exact Calls.quiet_of_same ((nstate_any (x := y) (by exact HI2.out.1)).mono fun _ _ h => ⟨h.1, h.2.symm⟩)) | (go_at_call 26; exact Calls.quiet_of_same ((nleft_any (x := y) (by exact HI2.out.1)).mono fun _ _ h => ⟨h.1, h.2.symm⟩)) | (go_at_call 43; exact Calls.quiet_of_same ((nlevel_any (x := y) (by exact HI2.out.1)).mono fun _ _ h => ⟨h.1, h.2.symm⟩)) | (go_at_call 52; exact Calls.quiet_of_same ((rnlevel_any (x := y) (by exact HI2.out.2.1)).mono fun _ _ h => ⟨h.1, h.2.symm⟩))))
        go_wp2_with fail
        go_roundw
        case rel => exact ⟨k + 1, by omega, by go_num, ⟨_, HI2.out.kp0 ((Kp.refl _ _).drewN _)⟩, HK2.out.drewN _⟩
        case measure => simp [intOf]; omega
    · obtain rfl : k = m := by omega
      clear hI hK H
      go_wp2_with fail
      go_ret
      exact ⟨rfl, ⟨x, HI.out⟩, HK.out⟩
end Go.Proofs.Ytcnjekballnncaa
