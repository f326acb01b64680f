/-
  What must be whatever is asked of a channel.
-/
import Derived.Test.YtcnjekballnncaaWav9
import Derived.Test.YtcnjekballnncaaWav2
import Derived.Test.YtcnjekballnncaaWav3
import Derived.Test.YtcnjekballnncaaWav7
import Derived.Deep.RegionHeld3
namespace Go.Proofs.Ytcnjekballnncaa
open Go.RowKit
set_option linter.unusedVariables false
set_option linter.unusedSimpArgs false
set_option maxRecDepth 100000
section
variable {w : World} {g : Nat} {x : Cw}
theorem cplace_v (h : CW w g x) {v : Int} (e : (x.pl : Int) = v) : Calls Try.prog 36 #[.pointer (some ⟨g, 0, none⟩)] w fun e w' => e = .returned (.int .i64 v) ∧ w = w' := e ▸ cplace_any h
theorem cuntil_v (h : CW w g x) {v : Int} (e : (x.left : Int) = v) : Calls Try.prog 37 #[.pointer (some ⟨g, 0, none⟩)] w fun e w' => e = .returned (.int .i64 v) ∧ w = w' := e ▸ cuntil_any h
theorem cvol_v (h : CW w g x) {v : Int} (e : x.ct % 32 = v) : Calls Try.prog 46 #[.pointer (some ⟨g, 0, none⟩)] w fun e w' => e = .returned (.int .u8 v) ∧ w = w' := e ▸ cvol_any h
end
def lvX : Nat → Cw
  | 0 => (Cw.new.wr 4 64).wr 4 0
  | k + 1 => (lvX k).wr 6 k
def lvY : Cw := ((lvX 32).wr 2 5).wr 4 159
def lvZ : Cw := (lvY.go 4096).go 5
theorem lv_w : (lvX 32).wv 31 = 31 := by kernel_rfl
theorem lv_p : ((lvY.go 4096).pl : Int) = 1 := by kernel_rfl
theorem lv_z : ((lvZ.pl : Int) = 2 ∧ lvZ.lvl = 2 ∧ lvZ.ct % 32 = 31 ∧ lvZ.on = true) ∧ (lvZ.per : Int) = 5 ∧ (lvZ.left : Int) = 5 := ⟨⟨by kernel_rfl, by kernel_rfl, by kernel_rfl, by kernel_rfl⟩, by kernel_rfl, by kernel_rfl⟩
theorem wave_built : Try.prog.built 57 [] = some (iArr .u8 32 fun _ => 0) := by kernel_rfl
theorem eqW0 (w : World) : (Op.equalIn 10000 57 (.agg (iArr .u8 32 fun _ => 0)) (.agg #[.int .u8 0, .int .u8 0, .int .u8 0, .int .u8 0, .int .u8 0, .int .u8 0, .int .u8 0, .int .u8 0, .int .u8 0, .int .u8 0, .int .u8 0, .int .u8 0, .int .u8 0, .int .u8 0, .int .u8 0, .int .u8 0, .int .u8 0, .int .u8 0, .int .u8 0, .int .u8 0, .int .u8 0, .int .u8 0, .int .u8 0, .int .u8 0, .int .u8 0, .int .u8 0, .int .u8 0, .int .u8 0, .int .u8 0, .int .u8 0, .int .u8 0, .int .u8 0])).run Try.prog w = .ok true w := by
  have e : (#[.int .u8 0, .int .u8 0, .int .u8 0, .int .u8 0, .int .u8 0, .int .u8 0, .int .u8 0, .int .u8 0, .int .u8 0, .int .u8 0, .int .u8 0, .int .u8 0, .int .u8 0, .int .u8 0, .int .u8 0, .int .u8 0, .int .u8 0, .int .u8 0, .int .u8 0, .int .u8 0, .int .u8 0, .int .u8 0, .int .u8 0, .int .u8 0, .int .u8 0, .int .u8 0, .int .u8 0, .int .u8 0, .int .u8 0, .int .u8 0, .int .u8 0, .int .u8 0] : Array Value) = iArr .u8 32 fun _ => 0 := by kernel_rfl
  rw [e, run_equalIn_array w 9999 57 5 32 _ _ (fun i => ((fun _ => 0 : Nat → Int) i) == ((fun _ => 0 : Nat → Int) i)) Try.underlying57 (by kernel_rfl) (fun i hi => ⟨_, _, part_w _ i hi w, part_w _ i hi w, eq_u8 9998 _ _ w⟩)]
  simp
set_option maxHeartbeats 16000000 in
theorem liveW_any (w : World) : Calls Try.prog 28 #[] w fun e w' => e = .returned (.bool true) ∧ Below w.heap.size w w' := by
  obtain ⟨B, hB⟩ : ∃ B, w.heap.size = B := ⟨_, rfl⟩
  have HB := Lib.hid hB
  clear hB
  go_enter Try.func28, Try.ntmps28
  go_wp2_with fail
  refine (cnew_any _).mono ?_
  rintro e w1 ⟨g, rfl, hg, h1, b1⟩
  rw [HB.out] at b1 hg
  have HG := Lib.hid hg
  have H1 := Lib.hid h1
  have K1 : Hid (Below B w w1) := Lib.hid b1
  clear h1 b1 hg
  go_wp2_with fail
  refine (cwrite_any H1.out 4 64 (by decide) (by decide)).mono ?_
  rintro e w2 ⟨rfl, h2, k2⟩
  have H2 := Lib.hid h2
  have K2 : Hid (Below B w w2) := Lib.hid (k2.onto K1.out (HB.out ▸ K1.out.size) (by simpa using HG.out))
  clear h2 k2 K1 H1
  go_wp2_with fail
  refine (cwrite_any H2.out 4 0 (by decide) (by decide)).mono ?_
  rintro e w3 ⟨rfl, h3, k3⟩
  have H3 : Hid (CW w3 g (lvX 0)) := Lib.hid h3
  have K3 : Hid (Below B w w3) := Lib.hid (k3.onto K2.out (HB.out ▸ K2.out.size) (by simpa using HG.out))
  clear h3 k3 K2 H2
  go_wp2_with fail
  go_loopw [2] (fun i wr => ∃ k : Nat, k ≤ 32 ∧ i = .int .i64 k ∧ CW wr g (lvX k) ∧ Below B w wr) (fun i _ => 32 - (intOf i).toNat)
  case atStart => exact ⟨0, Nat.zero_le _, rfl, H3.out, K3.out⟩
  case round =>
    obtain ⟨k, hk, rfl, hC, hK⟩ := hrel
    have HC := Lib.hid hC
    have HK := Lib.hid hK
    clear hC hK H3 K3
    by_cases hlt : k < 32
    · have i0 : (0 : Int) ≤ (k : Int) := by omega
      have i1 : (k : Int) < 32 := by omega
      have hwk : IntKind.u8.wrap (k : Int) = k := IntWalk.u8_in _ (by omega)
      go_wp2_with fail
      refine (cwrite_any HC.out 6 k (by omega) (by omega)).mono ?_
      rintro e w4 ⟨rfl, h4, k4⟩
      have H4 : Hid (CW w4 g (lvX (k + 1))) := Lib.hid h4
      have K4 : Hid (Below B w w4) := Lib.hid (k4.onto HK.out (HB.out ▸ HK.out.size) (by simpa using HG.out))
      clear h4 k4 HC HK
      go_wp2_with fail
      go_roundw
      case rel => exact ⟨k + 1, by omega, by go_num, H4.out, K4.out⟩
      case measure => simp [intOf]; omega
    · obtain rfl : k = 32 := by omega
      go_wp2_with fail
      refine (cwave_any HC.out).mono ?_
      rintro e w4 ⟨rfl, b4⟩
      have H4 := Lib.hid (HC.out.keep b4 HC.out.lt)
      have K4 := Lib.hid (HK.out.trans (b4.mono (HB.out ▸ HK.out.size)))
      clear b4 HC HK
      have hz0 := zeroW
      have hn := Blk.new w4 57 (iArr .u8 32 fun _ => 0)
      have hst := hn.run_store (P := Try.prog) (iArr .u8 32 (lvX 32).wv) (by rw [iArr_size, iArr_size]) (iArr_one _ _ _)
      have hsz := iArr_size .u8 32 (lvX 32).wv
      have hA : Below w4.heap.size w4 (w4.alloc (.cells (iArr .u8 32 fun _ => 0) 57)) := (Below.refl _ _).alloc (Nat.le_refl _) _
      have hB2 := below_setRow hA (Nat.le_refl w4.heap.size) (iArr .u8 32 (lvX 32).wv)
      have H5 := Lib.hid (H4.out.keep hB2 H4.out.lt)
      have K5 : Hid (Below B w _) := Lib.hid (K4.out.trans (hB2.mono (HB.out ▸ K4.out.size)))
      have W5 := Lib.hid (hn.row (iArr .u8 32 (lvX 32).wv))
      clear hn hA hB2 H4 K4
      go_upto_region 11 with fail
      generalize World.setRow _ _ _ = w5 at *
      generalize w4.heap.size = gw at *
      clear hst hz0 hsz
      go_wp2_with fail
      refine (cwrite_any H5.out 2 5 (by decide) (by decide)).mono ?_
      rintro e w6 ⟨rfl, h6, k6⟩
      have H6 : Hid (CW w6 g ((lvX 32).wr 2 5)) := Lib.hid h6
      have K6 : Hid (Below B w w6) := Lib.hid (k6.onto K5.out (HB.out ▸ K5.out.size) (by simpa using HG.out))
      have W6 := Lib.hid (W5.out.kp k6 (by have := W5.out.ne_ H5.out.1 (by decide); simpa using this))
      clear h6 k6 K5 H5 W5
      go_wp2_with fail
      refine (cwrite_any H6.out 4 159 (by decide) (by decide)).mono ?_
      rintro e w7 ⟨rfl, h7, k7⟩
      have H7 : Hid (CW w7 g lvY) := Lib.hid h7
      have K7 : Hid (Below B w w7) := Lib.hid (k7.onto K6.out (HB.out ▸ K6.out.size) (by simpa using HG.out))
      have W7 := Lib.hid (W6.out.kp k7 (by have := W6.out.ne_ H6.out.1 (by decide); simpa using this))
      clear h7 k7 K6 H6 W6
      go_wp2_with fail
      refine (cgo_any H7.out 4096 (by decide)).mono ?_
      rintro e w8 ⟨rfl, h8, k8⟩
      have H8 : Hid (CW w8 g (lvY.go 4096)) := Lib.hid h8
      have K8 : Hid (Below B w w8) := Lib.hid (k8.onto K7.out (HB.out ▸ K7.out.size) (by simpa using HG.out))
      have W8 := Lib.hid (W7.out.kp k8 (by have := W7.out.ne_ H7.out.1 (by decide); simpa using this))
      clear h8 k8 K7 H7 W7
      go_wp2_with fail
      refine (cplace_v H8.out lv_p).mono ?_
      rintro e w' ⟨rfl, rfl⟩
      go_wp2_with fail
      refine (cgo_any H8.out 5 (by decide)).mono ?_
      rintro e w9 ⟨rfl, h9, k9⟩
      have H9 : Hid (CW w9 g lvZ) := Lib.hid h9
      have K9 : Hid (Below B w w9) := Lib.hid (k9.onto K8.out (HB.out ▸ K8.out.size) (by simpa using HG.out))
      have W9 := Lib.hid (W8.out.kp k9 (by have := W8.out.ne_ H8.out.1 (by decide); simpa using this))
      clear h9 k9 K8 H8 W8
      go_wp2_with fail
      refine (cwrite_nil _ 2 1).mono ?_
      rintro e w' ⟨rfl, rfl⟩
      go_wp2_with fail
      refine (cgo_nil _ 1).mono ?_
      rintro e w' ⟨rfl, rfl⟩
      go_wp2_with fail
      refine (cbend_nil _ 1).mono ?_
      rintro e w' ⟨rfl, rfl⟩
      go_wp2_with fail
      refine (cbal_nil _).mono ?_
      rintro e w' ⟨rfl, rfl⟩
      have cell : Hid (∀ w' : World, Blk w' gw 57 (iArr .u8 32 (lvX 32).wv) → w'.cell? ⟨gw, 31, none⟩ = some (.int .u8 31)) := Lib.hid fun w' h => by rw [h.cell 31, iArr_at .u8 32 _ 31 (by decide), lv_w]
      have mW := eqW0
      obtain ⟨⟨z1, z2, z3, z4⟩, z5, z6⟩ := lv_z
      have Z1 := Lib.hid z1
      have Z2 := Lib.hid z2
      have Z3 := Lib.hid z3
      have Z4 := Lib.hid z4
      have Z5 := Lib.hid z5
      have Z6 := Lib.hid z6
      clear z1 z2 z3 z4 z5 z6
      generalize lvZ = x at *
      generalize lvX 32 = x32 at *
      have c31 := cell.out _ W9.out
      clear cell W9
      go_wp2_with fail
      refine (cplace_v H9.out Z1.out).mono ?_
      rintro e w' ⟨rfl, rfl⟩
      go_wp2_with fail
      refine (clevel_v H9.out Z2.out).mono ?_
      rintro e wb ⟨rfl, bb⟩
      have H10 := Lib.hid (H9.out.keep bb H9.out.lt)
      have K10 := Lib.hid (K9.out.trans (bb.mono (HB.out ▸ K9.out.size)))
      clear bb c31 K9 H9
      go_wp2_with fail
      refine (cvol_v H10.out Z3.out).mono ?_
      rintro e w' ⟨rfl, rfl⟩
      go_wp2_with fail
      refine (con_v H10.out Z4.out).mono ?_
      rintro e w' ⟨rfl, rfl⟩
      go_wp2_with fail
      refine (cper_v H10.out Z5.out).mono ?_
      rintro e wb ⟨rfl, bb⟩
      have H11 := Lib.hid (H10.out.keep bb H10.out.lt)
      have K11 := Lib.hid (K10.out.trans (bb.mono (HB.out ▸ K10.out.size)))
      clear bb K10 H10
      go_wp2_with fail
      refine (cuntil_v H11.out Z6.out).mono ?_
      rintro e w' ⟨rfl, rfl⟩
      go_wp2_with fail
      refine (clevel_nil _).mono ?_
      rintro e w' ⟨rfl, rfl⟩
      go_wp2_with fail
      refine (cper_nil _).mono ?_
      rintro e w' ⟨rfl, rfl⟩
      go_wp2_with fail
      refine (con_nil _).mono ?_
      rintro e w' ⟨rfl, rfl⟩
      go_wp2_with fail
      refine (cclone_nil _).mono ?_
      rintro e w' ⟨rfl, rfl⟩
      go_wp2_with fail
      refine (cuntil_nil _).mono ?_
      rintro e w' ⟨rfl, rfl⟩
      go_wp2_with fail
      refine (cplace_nil _).mono ?_
      rintro e w' ⟨rfl, rfl⟩
      go_wp2_with fail
      refine (cwave_nil _).mono ?_
      rintro e wb ⟨rfl, bb⟩
      have K12 := Lib.hid (K11.out.trans (bb.mono (HB.out ▸ K11.out.size)))
      clear bb K11
      go_wp2_with fail
      refine (cvol_nil _).mono ?_
      rintro e w' ⟨rfl, rfl⟩
      go_wp2_with fail
      go_ret
      exact ⟨rfl, HB.out ▸ K12.out⟩
end Go.Proofs.Ytcnjekballnncaa
