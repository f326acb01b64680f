/-
  A channel and the reference's go on alike: play.
-/
import Derived.Test.YtcnjekballnncaaWav9
import Derived.Test.YtcnjekballnncaaG21
import Derived.Test.YtcnjekballnncaaWav2
import Derived.Test.YtcnjekballnncaaWav3
import Derived.Test.YtcnjekballnncaaWav6
import Derived.Test.YtcnjekballnncaaWav8
import Derived.Deep.Cut
import Derived.Deep.CutRange
import Derived.Deep.CutBlock
import Derived.Deep.RegionHeld3
namespace Go.Proofs.Ytcnjekballnncaa
open Go.RowKit
set_option linter.unusedVariables false
set_option linter.unusedSimpArgs false
set_option maxRecDepth 100000
def FK5 : List FK := [.int .u8, .int .u8, .int .u8, .int .u16, .int .i64]
def StepsW (n : Nat) (qs : Nat → Nat → Value) : Prop := ∀ i, i < n → ∀ (j : Nat) (k : FK), FK5[j]? = some k → k.ok (qs i j)
theorem fkCells5 {w : World} {A : Option Addr} {n : Nat} {qs : Nat → Nat → Value} (Q : FRow w 5 A n qs) (k : Nat) (hk : k < n) : ∃ ad : Addr, A = some ad ∧ ad.block < w.heap.size ∧ w.cell? (ad.add (k * 5)) = some (qs k 0) ∧
    w.cell? ⟨(ad.add (k * 5)).block, (ad.add (k * 5)).off + 1, none⟩ = some (qs k 1) ∧ w.cell? ⟨(ad.add (k * 5)).block, (ad.add (k * 5)).off + 2, none⟩ = some (qs k 2) ∧ w.cell? ⟨(ad.add (k * 5)).block, (ad.add (k * 5)).off + 3, none⟩ = some (qs k 3) ∧ w.cell? ⟨(ad.add (k * 5)).block, (ad.add (k * 5)).off + 4, none⟩ = some (qs k 4) := by
  obtain ⟨ad, e, hl, hc⟩ := Q k hk
  refine ⟨ad, e, hl, hc 0 (by decide), ?_, ?_, ?_, ?_⟩
  · have h := hc 1 (by decide)
    rw [← add_of_add] at h; exact h
  · have h := hc 2 (by decide)
    rw [← add_of_add] at h; exact h
  · have h := hc 3 (by decide)
    rw [← add_of_add] at h; exact h
  · have h := hc 4 (by decide)
    rw [← add_of_add] at h; exact h
def CPR (W : World) (g r n : Nat) (w : World) (e : Ending) (w' : World) : Prop :=
  e = .returned (.bool true) ∧ (∃ y, CPl W w' g r n y) ∧ Kp [g, r, n] w w'
theorem RCW.bend {w : World} {r n : Nat} {x : Cw} (h : RCW w r n x) (d : Int) : RCW (w.setCell ⟨r, 2, none⟩ (.int .i64 (min (max d (-4096)) 4096))) r n (x.bend d) ∧ Kp [r] w (w.setCell ⟨r, 2, none⟩ (.int .i64 (min (max d (-4096)) 4096))) := by
  refine h.put (y := x.bend d) 2 _ (fun j hj => ?_) ?_ rfl
  · by_cases e : j = 2
    · subst e; rfl
    · rw [if_neg e]; unfold rchV; dsimp only [Cw.bend]; simp only [if_neg e]
  · obtain ⟨a, b, c, dd, e⟩ := h.2.2
    exact ⟨a, b, c, by simp only [Cw.bend]; omega, e⟩
set_option maxHeartbeats 32000000 in
theorem cplay_any {W w : World} {g r n : Nat} {x : Cw} {m cm : Nat} {A : Option Addr} {qs : Nat → Nat → Value}
    (h : CPl W w g r n x) (Q : FRow W 5 A m qs) (F : StepsW m qs) (hm : m ≤ 9223372036854775807) :
    Calls Try.prog 31 #[.pointer (some ⟨g, 0, none⟩), .pointer (some ⟨r, 0, none⟩), .slice A m cm] w (CPR W g r n w) := by
  have H := Lib.hid h
  have HQ := Lib.hid Q
  have HF := Lib.hid F
  clear h Q F
  go_enter Try.func31, Try.ntmps31
  go_wp2_with fail
  go_loopw [7] (fun i wr => ∃ k : Nat, k ≤ m ∧ i = .int .i64 k ∧ (∃ y, CPl W wr g r n y) ∧ Kp [g, r, n] w wr) (fun i _ => m - (intOf i).toNat)
  case atStart => exact ⟨0, Nat.zero_le _, rfl, ⟨x, H.out⟩, Kp.refl _ _⟩
  case round =>
    obtain ⟨k, hk, rfl, ⟨x, hI⟩, hK⟩ := hrel
    have HI := Lib.hid hI
    have HK := Lib.hid hK
    clear hI hK H
    by_cases hlt : k < m
    · obtain ⟨ad, rfl, hl, q0, q1, q2, q3, q4⟩ := fkCells5 (FRow.keep HQ.out HI.out.bw) k hlt
      obtain ⟨kd, e0, w0⟩ := HF.out k hlt 0 _ rfl
      obtain ⟨rg, e1, w1⟩ := HF.out k hlt 1 _ rfl
      obtain ⟨u, e2, w2⟩ := HF.out k hlt 2 _ rfl
      obtain ⟨N, e3, w3⟩ := HF.out k hlt 3 _ rfl
      obtain ⟨dl, e4, w4⟩ := HF.out k hlt 4 _ rfl
      rw [e0] at q0
      rw [e1] at q1
      rw [e2] at q2
      rw [e3] at q3
      rw [e4] at q4
      obtain ⟨a0, a1⟩ := bounds_u8 w0
      obtain ⟨o0, o1⟩ := bounds_u8 w1
      obtain ⟨u0, u1⟩ := bounds_u8 w2
      obtain ⟨n0, n1⟩ := bounds_u16 w3
      obtain ⟨N, rfl⟩ := Int.eq_ofNat_of_zero_le n0
      have i0 : (0 : Int) ≤ (k : Int) := by omega
      have i1 : (k : Int) < m := by omega
      clear w0 w1 w2 w3 w4 e0 e1 e2 e3 e4
      go_upto_block 2 with fail
      have kA : Kp [] wr (wr.alloc (.cells #[.int .u8 kd, .int .u8 rg, .int .u8 u, .int .u16 N, .int .i64 dl] 85)) := (Kp.refl _ _).alloc _
      have hb := Blk.new wr 85 #[.int .u8 kd, .int .u8 rg, .int .u8 u, .int .u16 N, .int .i64 dl]
      have HI0 := Lib.hid (HI.out.kp0 kA)
      have HB0 := Lib.hid hb
      have HK0 := Lib.hid (HK.out.trans kA (by simp))
      clear kA hb HI HK q0 q1 q2 q3 q4
      generalize wr.alloc _ = w0 at *
      generalize wr.heap.size = hh at *
      have e0 : w0.cell? ⟨hh, 0, none⟩ = some (.int .u8 kd) := HB0.out.cell 0
      have e1 : w0.cell? ⟨hh, 1, none⟩ = some (.int .u8 rg) := HB0.out.cell 1
      have e2 : w0.cell? ⟨hh, 2, none⟩ = some (.int .u8 u) := HB0.out.cell 2
      have e3 : w0.cell? ⟨hh, 3, none⟩ = some (.int .u16 N) := HB0.out.cell 3
      have e4 : w0.cell? ⟨hh, 4, none⟩ = some (.int .i64 dl) := HB0.out.cell 4
      have hk4 : kd % 3 = 0 ∨ kd % 3 = 1 ∨ kd % 3 = 2 := by omega
      have hg1 : hh ∉ [g] := by
        have := HB0.out.ne_ HI0.out.c.1 (by decide)
        simpa using this
      go_cut [7] from 9 to 63 (fun i wx => i = .int .i64 k ∧ (∃ y, CPl W wx g r n y) ∧ Kp [g, r, n] w0 wx)
      case first =>
        rcases hk4 with h4 | h4 | h4
        · clear e0 e3 e4
          have hwr : IntKind.i64.wrap rg = rg := IntWalk.i64_in _ (by omega)
          go_wp2_with fail
          refine (cwrite_any HI0.out.c rg u u0 u1).mono ?_
          rintro e w1 ⟨rfl, y1, y2⟩
          have Y1 := Lib.hid y1
          have Y2 := Lib.hid y2
          have R1 := Lib.hid (HI0.out.ref1 Y2.out)
          have B1 := Lib.hid (HB0.out.kp Y2.out hg1)
          clear y1 y2 e1 e2
          have e1 : w1.cell? ⟨hh, 1, none⟩ = some (.int .u8 rg) := B1.out.cell 1
          have e2 : w1.cell? ⟨hh, 2, none⟩ = some (.int .u8 u) := B1.out.cell 2
          go_wp2_with fail
          refine (rcwrite_any R1.out rg u u0 u1).mono ?_
          rintro e w2 ⟨rfl, z1, z2⟩
          have X := Lib.hid (HI0.out.two Y1.out Y2.out z1 z2)
          clear z1 z2 e1 e2
          go_wp2_with fail
          go_meet
          case rel => exact ⟨rfl, ⟨_, X.out.1⟩, X.out.2⟩
        · clear e0 e1 e2 e4
          have hwn : IntKind.i64.wrap N = N := IntWalk.i64_in _ (by omega)
          go_wp2_with fail
          refine (cgo_any HI0.out.c N (by omega)).mono ?_
          rintro e w1 ⟨rfl, y1, y2⟩
          have Y1 := Lib.hid y1
          have Y2 := Lib.hid y2
          have R1 := Lib.hid (HI0.out.ref1 Y2.out)
          have B1 := Lib.hid (HB0.out.kp Y2.out hg1)
          clear y1 y2 e3
          have e3 : w1.cell? ⟨hh, 3, none⟩ = some (.int .u16 N) := B1.out.cell 3
          go_wp2_with fail
          refine (rcgo_any R1.out N (by omega)).mono ?_
          rintro e w2 ⟨rfl, z1, z2⟩
          have X := Lib.hid (HI0.out.two Y1.out Y2.out z1 z2)
          clear z1 z2 e3
          go_wp2_with fail
          go_meet
          case rel => exact ⟨rfl, ⟨_, X.out.1⟩, X.out.2⟩
        · clear e0 e1 e2 e3
          go_wp2_with fail
          refine (cbend_any HI0.out.c dl).mono ?_
          rintro e w1 ⟨rfl, y1, y2⟩
          have Y1 := Lib.hid y1
          have Y2 := Lib.hid y2
          have R1 := Lib.hid (HI0.out.ref1 Y2.out)
          have B1 := Lib.hid (HB0.out.kp Y2.out hg1)
          clear y1 y2 e4
          have e4 : w1.cell? ⟨hh, 4, none⟩ = some (.int .i64 dl) := B1.out.cell 4
          have c2 : w1.cell? ⟨r, 2, none⟩ = some (.int .i64 (x.bd)) := R1.out.cell 2 (by decide)
          have f2 := R1.out.1.frozen 2
          obtain ⟨p1, p2⟩ := R1.out.bend dl
          have X := Lib.hid (HI0.out.two Y1.out Y2.out p1 (p2.mono (M := [r, n]) (by simp)))
          clear p1 p2
          go_wp2_with fail
          refine (rhold_any dl _).mono ?_
          rintro e w' ⟨rfl, rfl⟩
          go_wp2_with fail
          go_meet
          case rel => exact ⟨rfl, ⟨_, X.out.1⟩, X.out.2⟩
      case rest =>
        obtain ⟨rfl, ⟨y, hI2⟩, hK2⟩ := hcut
        have HI2 : Hid (CPl W wc g r n y) := Lib.hid hI2
        have HK2 : Hid (Kp [g, r, n] w wc) := Lib.hid (HK0.out.trans hK2 (fun z hz => .inl hz))
        clear hI2 hK2 HI0 HB0 HK0 e0 e1 e2 e3 e4
        go_wp2_with fail
        refine (alike_any HI2.out).mono ?_
        rintro e u1 ⟨rfl, bb⟩
        have HI3 := Lib.hid (HI2.out.on bb)
        have HK3 : Hid (Kp [g, r, n] w u1) := Lib.hid (HK2.out.trans (Kp.of_below (L := [g, r, n]) bb) (fun z hz => .inl hz))
        clear bb HI2 HK2
        go_wp2_with fail
        go_roundw
        case rel => exact ⟨k + 1, by omega, by go_num, ⟨y, HI3.out⟩, HK3.out⟩
        case measure => simp [intOf]; omega
    · obtain rfl : k = m := by omega
      go_wp2_with fail
      go_ret
      exact ⟨rfl, ⟨x, HI.out⟩, HK.out⟩
theorem CPl.kpn {W w w' : World} {g r n : Nat} {x : Cw} {L : List Nat} (h : CPl W w g r n x) (k : Kp L w w') (hL : g ∉ L ∧ r ∉ L ∧ n ∉ L) (hW : ∀ z ∈ L, W.heap.size ≤ z) : CPl W w' g r n x :=
  ⟨h.c.kp k hL.1, h.rc.kp k hL.2, k.onto h.bw h.bw.size hW, h.lo⟩
theorem CPl.lts {W w : World} {g r n : Nat} {x : Cw} (h : CPl W w g r n x) : g < w.heap.size ∧ r < w.heap.size ∧ n < w.heap.size := ⟨h.c.lt, h.rc.1.lt, RNZ.lt h.rc.2.1⟩
end Go.Proofs.Ytcnjekballnncaa
