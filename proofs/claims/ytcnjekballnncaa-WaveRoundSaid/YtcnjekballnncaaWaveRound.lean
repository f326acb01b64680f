/-
  For every input WaveRound returns true, and each argument reads behind the call as it read before. No conditions.
-/
import Derived.Test.YtcnjekballnncaaRows
import Derived.Test.YtcnjekballnncaaG3
import Derived.Test.YtcnjekballnncaaG11
import Derived.Test.YtcnjekballnncaaWav11
namespace Go.Proofs.Ytcnjekballnncaa.waveRound
open Go.ChangeShapes Go.WideShapes Go.ChangeAt Go.RowKit
open Go.ChangeMaps (open_string)

theorem arr32 {k : IntKind} {cs : Array Value} {zs : Nat → Int} (hs : cs.size = 32) (h : ∀ i, i < 32 → cs[i]? = some (.int k (zs i))) : cs = iArr k 32 zs := by
  apply Array.ext_getElem?
  intro i
  by_cases hi : i < 32
  · rw [h i hi, iArr_at k 32 zs i hi]
  · rw [Array.getElem?_eq_none (by omega), Array.getElem?_eq_none (by rw [iArr_size]; omega)]
def rdX (z : Nat → Int) : Nat → Cw
  | 0 => Cw.new
  | k + 1 => (rdX z k).wr 6 (z k)
def Plain (z : Nat → Int) (m : Nat) (x : Cw) : Prop := ∀ j, j < m → x.wv j = z j % 32
theorem rdX_inv (z : Nat → Int) : ∀ k, k ≤ 32 → Plain z k (rdX z k) ∧ (rdX z k).pl = k % 32 ∧ (rdX z k).ct = 0 ∧ (rdX z k).ns = false ∧ (rdX z k).left = 4096
  | 0, _ => ⟨fun j hj => absurd hj (Nat.not_lt_zero _), rfl, rfl, rfl, rfl⟩
  | k + 1, hk => by
    obtain ⟨a, b, c, d, e⟩ := rdX_inv z k (by omega)
    have ht : (rdX z k).tell = false := by unfold Cw.tell; rw [c]; kernel_rfl
    have hs : rdX z (k + 1) = { rdX z k with wv := fun i => if i = (rdX z k).pl then z k % 32 else (rdX z k).wv i, pl := ((rdX z k).pl + 1) % 32 } := by
      show (rdX z k).take (z k % 32) = _
      unfold Cw.take
      rw [ht]
      rfl
    rw [hs]
    refine ⟨fun j hj => ?_, ?_, c, d, e⟩
    · dsimp only
      rw [b, Nat.mod_eq_of_lt (show k < 32 by omega)]
      by_cases h : j = k
      · rw [if_pos h, h]
      · rw [if_neg h]; exact a j (by omega)
    · dsimp only
      rw [b]; omega
theorem dn_self (L p : Nat) : dnS L L p = 1 ∧ dnL L L p = p := by
  unfold dnS dnL
  rw [if_neg (Nat.lt_irrefl L), if_neg (Nat.lt_irrefl L), Nat.sub_self, Nat.zero_div, Nat.zero_mod]
  exact ⟨rfl, rfl⟩
theorem go_full {y : Cw} (hc : y.ct = 128) {N : Nat} (hN : y.left = N) : (y.go N).wv = y.wv ∧ (y.go N).pl = (y.pl + 1) % 32 ∧ (y.go N).ct = 128 ∧ (y.go N).ns = y.ns ∧ (y.go N).left = (y.go N).per := by
  subst hN
  have hr : y.runs = true := by unfold Cw.runs Cw.on Cw.tell; rw [hc]; kernel_rfl
  have hp : (y.go y.left).per = y.per := by rw [Cw.go_eq]; rfl
  rw [hp, Cw.go_eq]
  dsimp only
  rw [if_pos hr, if_pos hr, (dn_self _ _).1, (dn_self _ _).2]
  exact ⟨rfl, rfl, hc, rfl, rfl⟩
theorem lvl_wv {y : Cw} (hc : y.ct = 128) (hn : y.ns = false) : y.lvl = y.wv y.pl := by
  have e1 : y.on = true := by unfold Cw.on; rw [hc]; kernel_rfl
  have e2 : y.tell = false := by unfold Cw.tell; rw [hc]; kernel_rfl
  unfold Cw.lvl
  rw [e1, e2, hn]
  simp

set_option linter.unusedVariables false
set_option linter.unusedSimpArgs false
set_option maxRecDepth 100000 in
set_option maxHeartbeats 8000000 in
theorem walk (z : Nat → Int) (wz : ∀ i, (Lit.int .u8 (z i)).wf = true) (f : Int) (wf : (Lit.int .u16 f).wf = true) (W : World) :
    Calls Try.prog 10 #[.agg (iArr .u8 32 z), .int .u16 f] W fun e w' => e = .returned (.bool true) ∧ Below W.heap.size W w' := by
  obtain ⟨f0, f1⟩ := bounds_u16 wf
  have hf1 : f.tmod 256 = f % 256 := Int.tmod_eq_emod_of_nonneg f0
  have hf2 : IntKind.u8.wrap (f % 256) = f % 256 := IntWalk.u8_in _ (by omega)
  have hf3 : IntKind.u16.wrap (f.tdiv 256) = f / 256 := by rw [Int.tdiv_eq_ediv_of_nonneg f0]; exact IntWalk.u16_in _ (by omega)
  have hf4 : IntKind.u8.wrap (f / 256) = f / 256 := IntWalk.u8_in _ (by omega)
  have HZ : Hid (∀ i, 0 ≤ z i ∧ z i ≤ 255) := Lib.hid fun i => bounds_u8 (wz i)
  have HCL : Hid (∀ (w' : World) (gb k : Nat), Blk w' gb 57 (iArr .u8 32 z) → k < 32 → w'.cell? ⟨gb, k, none⟩ = some (.int .u8 (z k))) := Lib.hid fun w' gb k h hk => by rw [h.cell k, iArr_at .u8 32 z k hk]
  clear wz wf
  go_enter Try.func10, Try.ntmps10
  go_wp2_with fail
  have FB := Lib.hid (Blk.new W 57 (iArr .u8 32 z))
  have HB := Lib.hid ((Below.refl W.heap.size W).alloc (Nat.le_refl _) (.cells (iArr .u8 32 z) 57))
  generalize World.alloc W _ = w0 at *
  refine (liveW_any _).mono ?_
  rintro e w1 ⟨rfl, b1⟩
  have HB1 := Lib.hid (HB.out.trans (b1.mono HB.out.size))
  have FB1 := Lib.hid (FB.out.below b1 FB.out.lt)
  clear b1 HB FB
  go_wp2_with fail
  refine (cnew_any _).mono ?_
  rintro e w2 ⟨g, rfl, hg, h2, b2⟩
  have hgb : W.heap.size < g := Nat.lt_of_lt_of_le FB1.out.lt hg
  have HB2 := Lib.hid (HB1.out.trans (b2.mono HB1.out.size))
  have FB2 := Lib.hid (FB1.out.below b2 FB1.out.lt)
  have H2 := Lib.hid h2
  clear h2 b2 HB1 FB1 hg
  go_wp2_with fail
  go_loopw [6] (fun i wr => ∃ k : Nat, k ≤ 32 ∧ i = .int .i64 k ∧ CW wr g (rdX z k) ∧ Below W.heap.size W wr ∧ Blk wr W.heap.size 57 (iArr .u8 32 z)) (fun i _ => 32 - (intOf i).toNat)
  case atStart => exact ⟨0, Nat.zero_le _, rfl, H2.out, HB2.out, FB2.out⟩
  case round =>
    obtain ⟨k, hk, rfl, hC, hB, hF⟩ := hrel
    have HC := Lib.hid hC
    have HB := Lib.hid hB
    have FB := Lib.hid hF
    clear hC hB hF H2 HB2 FB2
    by_cases hlt : k < 32
    · have i0 : (0 : Int) ≤ (k : Int) := by omega
      have i1 : (k : Int) < 32 := by omega
      have hc := HCL.out _ _ k FB.out hlt
      obtain ⟨b0, b1⟩ := HZ.out k
      go_wp2_with fail
      refine (cwrite_any HC.out 6 (z k) b0 b1).mono ?_
      rintro e w3 ⟨rfl, h3, k3⟩
      have H3 : Hid (CW w3 g (rdX z (k + 1))) := Lib.hid h3
      have HB3 := Lib.hid (k3.onto HB.out HB.out.size (by simp; omega))
      have FB3 := Lib.hid (FB.out.kp k3 (by simp; omega))
      clear h3 k3 HC HB FB hc b0 b1
      go_wp2_with fail
      go_roundw
      case rel => exact ⟨k + 1, by omega, by go_num, H3.out, HB3.out, FB3.out⟩
      case measure => simp [intOf]; omega
    · obtain rfl : k = 32 := by omega
      obtain ⟨r1, r2, r3, r4, r5⟩ := rdX_inv z 32 (by omega)
      generalize rdX z 32 = x at *
      go_wp2_with fail
      refine (cwrite_any HC.out 2 (f % 256) (by omega) (by omega)).mono ?_
      rintro e w3 ⟨rfl, h3, k3⟩
      have H3 := Lib.hid h3
      have HB3 := Lib.hid (k3.onto HB.out HB.out.size (by simp; omega))
      have FB3 := Lib.hid (FB.out.kp k3 (by simp; omega))
      clear h3 k3 HC HB FB
      go_wp2_with fail
      refine (cwrite_any H3.out 3 (f / 256) (by omega) (by omega)).mono ?_
      rintro e w4 ⟨rfl, h4, k4⟩
      have H4 := Lib.hid h4
      have HB4 := Lib.hid (k4.onto HB3.out HB3.out.size (by simp; omega))
      have FB4 := Lib.hid (FB3.out.kp k4 (by simp; omega))
      clear h4 k4 H3 HB3 FB3
      go_wp2_with fail
      refine (cwrite_any H4.out 4 128 (by decide) (by decide)).mono ?_
      rintro e w5 ⟨rfl, h5, k5⟩
      obtain ⟨X, hX⟩ : ∃ X, ((x.wr 2 (f % 256)).wr 3 (f / 256)).wr 4 128 = X := ⟨_, rfl⟩
      rw [hX] at h5
      have x1 : Plain z 32 X := by rw [← hX]; exact r1
      have x2 : X.pl = 0 := by rw [← hX]; exact r2
      have x3 : X.ct = 128 := by rw [← hX]; rfl
      have x4 : X.ns = false := by rw [← hX]; exact r4
      have x5 : X.left = 4096 := by rw [← hX]; exact r5
      have x6 : (X.left : Int) = 4096 := by omega
      have H5 := Lib.hid h5
      have HB5 := Lib.hid (k5.onto HB4.out HB4.out.size (by simp; omega))
      have FB5 := Lib.hid (FB4.out.kp k5 (by simp; omega))
      obtain ⟨y1, y2, y3, y4, y5⟩ := go_full x3 x5
      have X6 := Lib.hid x6
      have HY : Hid (Plain z 32 (X.go 4096) ∧ (X.go 4096).pl = (0 + 1) % 32 ∧ (X.go 4096).ct = 128 ∧ (X.go 4096).ns = false ∧ (X.go 4096).left = (X.go 4096).per) := Lib.hid ⟨fun j hj => by rw [y1]; exact x1 j hj, by rw [y2, x2], y3, y4.trans x4, y5⟩
      clear h5 k5 H4 HB4 FB4 hX r1 r2 r3 r4 r5 x1 x2 x3 x4 x5 x6 y1 y2 y3 y4 y5
      go_wp2_with fail
      refine (cuntil_v H5.out X6.out).mono ?_
      rintro e w' ⟨rfl, rfl⟩
      go_wp2_with fail
      refine (cgo_any H5.out 4096 (by decide)).mono ?_
      rintro e w6 ⟨rfl, h6, k6⟩
      have H6 := Lib.hid h6
      have HB6 := Lib.hid (k6.onto HB5.out HB5.out.size (by simp; omega))
      have FB6 := Lib.hid (FB5.out.kp k6 (by simp; omega))
      clear h6 k6 H5 HB5 FB5
      go_wp2_with fail
      go_loopw [7] (fun i wr => ∃ k : Nat, k ≤ 64 ∧ i = .int .i64 k ∧ (∃ y, CW wr g y ∧ Plain z 32 y ∧ y.pl = (k + 1) % 32 ∧ y.ct = 128 ∧ y.ns = false ∧ y.left = y.per) ∧ Below W.heap.size W wr ∧ Blk wr W.heap.size 57 (iArr .u8 32 z)) (fun i _ => 64 - (intOf i).toNat)
      case atStart => exact ⟨0, Nat.zero_le _, rfl, ⟨_, H6.out, HY.out⟩, HB6.out, FB6.out⟩
      case round =>
        obtain ⟨k, hk, rfl, ⟨y, hC, y1, y2, y3, y4, y5⟩, hB, hF⟩ := hrel
        have HC := Lib.hid hC
        have HB := Lib.hid hB
        have FB := Lib.hid hF
        clear hC hB hF H6 HB6 FB6 HY
        by_cases hlt : k < 64
        · have i0 : (0 : Int) ≤ (k : Int) := by omega
          have i1 : (k : Int) < 64 := by omega
          obtain ⟨p, hp⟩ : ∃ p, (k + 1) % 32 = p := ⟨_, rfl⟩
          have hp1 : p < 32 := by omega
          have p0 : (0 : Int) ≤ (p : Int) := by omega
          have p1 : (p : Int) < 32 := by omega
          have hn1 : IntKind.i64.wrap ((k : Int) + 1) = (k : Int) + 1 := IntWalk.i64_in _ (by omega)
          have hn2 : ((k : Int) + 1).tmod 32 = (p : Int) := by rw [Int.tmod_eq_emod_of_nonneg (by omega)]; omega
          obtain ⟨b0, b1⟩ := HZ.out p
          obtain ⟨v, hv⟩ : ∃ v, z p % 32 = v := ⟨_, rfl⟩
          have hn3 : (z p).tmod 32 = v := by rw [Int.tmod_eq_emod_of_nonneg b0]; exact hv
          have HV : Hid (y.lvl = v) := Lib.hid (by rw [lvl_wv y3 y4, y2, hp, y1 p hp1]; exact hv)
          obtain ⟨q, hq⟩ : ∃ q : Nat, y.per = q := ⟨_, rfl⟩
          have hl : y.left = q := y5.trans hq
          have HQ1 : Hid ((y.per : Int) = q) := Lib.hid (by rw [hq])
          have HQ2 : Hid ((y.left : Int) = q) := Lib.hid (by rw [hl])
          have hq1 : q ≤ 4096 := hq ▸ y.per_bd.2
          have m1 : (v != v) = false := by simp
          have m2 : ((q : Int) != q) = false := by simp
          obtain ⟨g1, g2, g3, g4, g5⟩ := go_full y3 hl
          have HY : Hid (Plain z 32 (y.go q) ∧ (y.go q).pl = (k + 1 + 1) % 32 ∧ (y.go q).ct = 128 ∧ (y.go q).ns = false ∧ (y.go q).left = (y.go q).per) := Lib.hid ⟨fun j hj => by rw [g1]; exact y1 j hj, by rw [g2, y2]; omega, g3, g4.trans y4, g5⟩
          have hc := HCL.out _ _ p FB.out hp1
          clear y1 y2 y3 y4 y5 hv hq hl g1 g2 g3 g4 g5 hp
          go_wp2_with fail
          refine rg_begin (S := fun w' => w'.cell? ⟨W.heap.size, p, none⟩ = some (.int .u8 (z p))) 16 #[false, false, false, false, false, false, false, false, false, false, false, false, false, false, false, false] (by kernel_rfl) (by kernel_rfl) (by kernel_rfl) ?_ (fun hHeld => ?_)
          · exact hc
          refine rg_take (i := 0) (d := some 40) (l := #[true, false, false, false, false, false, false, false, false, false, false, false, false, false, false, false]) (fuel := 15) (v := ?_) rfl (by kernel_rfl) (by kernel_rfl) (by kernel_rfl) (by kernel_rfl) (by kernel_rfl) (fun _ _ _ h => h) (by kernel_rfl) ?_ (by assumption) ?_
          rotate_left 1
          · (intro wS hSw; (try dsimp only at hSw); go_simp; try with_reducible rfl)
          try simp only [Act.put, List.setIfInBounds_toArray, List.set_cons_zero, List.set_cons_succ]
          refine rg_take (i := 2) (d := some 42) (l := #[true, false, true, false, false, false, false, false, false, false, false, false, false, false, false, false]) (fuel := 14) (v := ?_) rfl (by kernel_rfl) (by kernel_rfl) (by kernel_rfl) (by kernel_rfl) (by kernel_rfl) (fun _ _ _ h => h) (by kernel_rfl) ?_ (by assumption) ?_
          rotate_left 1
          · (intro wS hSw; (try dsimp only at hSw); go_simp; try with_reducible rfl)
          try simp only [Act.put, List.setIfInBounds_toArray, List.set_cons_zero, List.set_cons_succ]
          refine rg_take (i := 3) (d := some 43) (l := #[true, false, true, true, false, false, false, false, false, false, false, false, false, false, false, false]) (fuel := 13) (v := ?_) rfl (by kernel_rfl) (by kernel_rfl) (by kernel_rfl) (by kernel_rfl) (by kernel_rfl) (fun _ _ _ h => h) (by kernel_rfl) ?_ (by assumption) ?_
          rotate_left 1
          · (intro wS hSw; (try dsimp only at hSw); go_simp; try with_reducible rfl)
          try simp only [Act.put, List.setIfInBounds_toArray, List.set_cons_zero, List.set_cons_succ]
          try rw [hn1]
          refine rg_take (i := 4) (d := some 44) (l := #[true, false, true, true, true, false, false, false, false, false, false, false, false, false, false, false]) (fuel := 12) (v := ?_) rfl (by kernel_rfl) (by kernel_rfl) (by kernel_rfl) (by kernel_rfl) (by kernel_rfl) (fun _ _ _ h => h) (by kernel_rfl) ?_ (by assumption) ?_
          rotate_left 1
          · (intro wS hSw; (try dsimp only at hSw); go_simp; try with_reducible rfl)
          try simp only [Act.put, List.setIfInBounds_toArray, List.set_cons_zero, List.set_cons_succ]
          try rw [hn2]
          refine rg_take (i := 5) (d := some 45) (l := #[true, false, true, true, true, true, false, false, false, false, false, false, false, false, false, false]) (fuel := 11) (v := ?_) rfl (by kernel_rfl) (by kernel_rfl) (by kernel_rfl) (by kernel_rfl) (by kernel_rfl) (fun _ _ _ h => h) (by kernel_rfl) ?_ (by assumption) ?_
          rotate_left 1
          · (intro wS hSw; (try dsimp only at hSw); go_simp; try with_reducible rfl)
          try simp only [Act.put, List.setIfInBounds_toArray, List.set_cons_zero, List.set_cons_succ]
          refine rg_take (i := 6) (d := some 46) (l := #[true, false, true, true, true, true, true, false, false, false, false, false, false, false, false, false]) (fuel := 10) (v := ?_) rfl (by kernel_rfl) (by kernel_rfl) (by kernel_rfl) (by kernel_rfl) (by kernel_rfl) (fun _ _ _ h => h) (by kernel_rfl) ?_ (by assumption) ?_
          rotate_left 1
          · (intro wS hSw; (try dsimp only at hSw); go_simp; try with_reducible rfl)
          try simp only [Act.put, List.setIfInBounds_toArray, List.set_cons_zero, List.set_cons_succ]
          refine rg_take (i := 7) (d := some 47) (l := #[true, false, true, true, true, true, true, true, false, false, false, false, false, false, false, false]) (fuel := 9) (v := ?_) rfl (by kernel_rfl) (by kernel_rfl) (by kernel_rfl) (by kernel_rfl) (by kernel_rfl) (fun _ _ _ h => h) (by kernel_rfl) ?_ (by assumption) ?_
          rotate_left 1
          · (intro wS hSw; (try dsimp only at hSw); go_simp; try with_reducible rfl)
          try simp only [Act.put, List.setIfInBounds_toArray, List.set_cons_zero, List.set_cons_succ]
          try rw [hn3]
          refine rg_next (i := 1) (l := #[true, true, true, true, true, true, true, true, false, false, false, false, false, false, false, false]) (fuel := 8) (by kernel_rfl) rfl (by kernel_rfl) (by kernel_rfl) (fun K hK => ?_)
          go_simp
          (go_at_call 38)
          refine (clevel_v (HC.out.kp (Kp.refl [] _).drew (by simp)) HV.out).mono ?_
          rintro e w7 ⟨rfl, b7⟩
          have HC7 := Lib.hid ((HC.out.kp (Kp.refl [] _).drew (by simp)).keep b7 (by exact HC.out.lt))
          have HB7 := Lib.hid (HB.out.drew.trans (b7.mono (by exact HB.out.size)))
          have FB7 := Lib.hid (FB.out.drew_.below b7 (by exact FB.out.lt))
          clear b7 HC HB FB hc
          first | (refine hK.out _ _ ?_ (fun hHeld => ?_)) | (go_wp2_with fail; refine hK.out _ _ ?_ (fun hHeld => ?_))
          · (try dsimp only); exact HCL.out _ _ p FB7.out hp1
          clear hK K
          try simp only [Act.put, List.setIfInBounds_toArray, List.set_cons_zero, List.set_cons_succ]
          refine rg_take (i := 8) (d := some 48) (l := #[true, true, true, true, true, true, true, true, true, false, false, false, false, false, false, false]) (fuel := 7) (v := ?_) rfl (by kernel_rfl) (by kernel_rfl) (by kernel_rfl) (by kernel_rfl) (by kernel_rfl) (fun _ _ _ h => h) (by kernel_rfl) ?_ (by assumption) ?_
          rotate_left 1
          · (intro wS hSw; (try dsimp only at hSw); go_simp; try with_reducible rfl)
          try simp only [Act.put, List.setIfInBounds_toArray, List.set_cons_zero, List.set_cons_succ]
          refine rg_take (i := 9) (d := some 49) (l := #[true, true, true, true, true, true, true, true, true, true, false, false, false, false, false, false]) (fuel := 6) (v := ?_) rfl (by kernel_rfl) (by kernel_rfl) (by kernel_rfl) (by kernel_rfl) (by kernel_rfl) (fun _ _ _ h => h) (by kernel_rfl) ?_ (by assumption) ?_
          rotate_left 1
          · (intro wS hSw; (try dsimp only at hSw); go_simp; try with_reducible rfl)
          try simp only [Act.put, List.setIfInBounds_toArray, List.set_cons_zero, List.set_cons_succ]
          refine rg_take (i := 10) (d := some 50) (l := #[true, true, true, true, true, true, true, true, true, true, true, false, false, false, false, false]) (fuel := 5) (v := ?_) rfl (by kernel_rfl) (by kernel_rfl) (by kernel_rfl) (by kernel_rfl) (by kernel_rfl) (fun _ _ _ h => h) (by kernel_rfl) ?_ (by assumption) ?_
          rotate_left 1
          · (intro wS hSw; (try dsimp only at hSw); go_simp; try with_reducible rfl)
          try simp only [Act.put, List.setIfInBounds_toArray, List.set_cons_zero, List.set_cons_succ]
          refine rg_take (i := 12) (d := some 52) (l := #[true, true, true, true, true, true, true, true, true, true, true, false, true, false, false, false]) (fuel := 4) (v := ?_) rfl (by kernel_rfl) (by kernel_rfl) (by kernel_rfl) (by kernel_rfl) (by kernel_rfl) (fun _ _ _ h => h) (by kernel_rfl) ?_ (by assumption) ?_
          rotate_left 1
          · (intro wS hSw; (try dsimp only at hSw); go_simp; try with_reducible rfl)
          try simp only [Act.put, List.setIfInBounds_toArray, List.set_cons_zero, List.set_cons_succ]
          refine rg_next (i := 11) (l := #[true, true, true, true, true, true, true, true, true, true, true, true, true, false, false, false]) (fuel := 3) (by kernel_rfl) rfl (by kernel_rfl) (by kernel_rfl) (fun K hK => ?_)
          go_simp
          (go_at_call 37)
          refine (cuntil_v HC7.out HQ2.out).mono ?_
          rintro e w' ⟨rfl, rfl⟩
          first | (refine hK.out _ _ ?_ (fun hHeld => ?_)) | (go_wp2_with fail; refine hK.out _ _ ?_ (fun hHeld => ?_))
          · (try dsimp only); exact HCL.out _ _ p FB7.out hp1
          clear hK K
          try simp only [Act.put, List.setIfInBounds_toArray, List.set_cons_zero, List.set_cons_succ]
          refine rg_next (i := 13) (l := #[true, true, true, true, true, true, true, true, true, true, true, true, true, true, false, false]) (fuel := 2) (by kernel_rfl) rfl (by kernel_rfl) (by kernel_rfl) (fun K hK => ?_)
          go_simp
          (go_at_call 40)
          refine (cper_v HC7.out HQ1.out).mono ?_
          rintro e w8 ⟨rfl, b8⟩
          have HC8 := Lib.hid (HC7.out.keep b8 HC7.out.lt)
          have HB8 := Lib.hid (HB7.out.trans (b8.mono HB7.out.size))
          have FB8 := Lib.hid (FB7.out.below b8 FB7.out.lt)
          clear b8 HC7 HB7 FB7
          first | (refine hK.out _ _ ?_ (fun hHeld => ?_)) | (go_wp2_with fail; refine hK.out _ _ ?_ (fun hHeld => ?_))
          · (try dsimp only); exact HCL.out _ _ p FB8.out hp1
          clear hK K
          try simp only [Act.put, List.setIfInBounds_toArray, List.set_cons_zero, List.set_cons_succ]
          refine rg_take (i := 14) (d := some 54) (l := #[true, true, true, true, true, true, true, true, true, true, true, true, true, true, true, false]) (fuel := 1) (v := ?_) rfl (by kernel_rfl) (by kernel_rfl) (by kernel_rfl) (by kernel_rfl) (by kernel_rfl) (fun _ _ _ h => h) (by kernel_rfl) ?_ (by assumption) ?_
          rotate_left 1
          · (intro wS hSw; (try dsimp only at hSw); go_simp; try with_reducible rfl)
          try simp only [Act.put, List.setIfInBounds_toArray, List.set_cons_zero, List.set_cons_succ]
          refine rg_take (i := 15) (d := some 55) (l := #[true, true, true, true, true, true, true, true, true, true, true, true, true, true, true, true]) (fuel := 0) (v := ?_) rfl (by kernel_rfl) (by kernel_rfl) (by kernel_rfl) (by kernel_rfl) (by kernel_rfl) (fun _ _ _ h => h) (by kernel_rfl) ?_ (by assumption) ?_
          rotate_left 1
          · (intro wS hSw; (try dsimp only at hSw); go_simp; try with_reducible rfl)
          try simp only [Act.put, List.setIfInBounds_toArray, List.set_cons_zero, List.set_cons_succ]
          refine wpAnyH_done (by kernel_rfl) ?_ _
          clear hHeld
          go_wp2_with fail
          refine (cper_v HC8.out HQ1.out).mono ?_
          rintro e w9 ⟨rfl, b9⟩
          have HC9 := Lib.hid (HC8.out.keep b9 HC8.out.lt)
          have HB9 := Lib.hid (HB8.out.trans (b9.mono HB8.out.size))
          have FB9 := Lib.hid (FB8.out.below b9 FB8.out.lt)
          clear b9 HC8 HB8 FB8
          go_wp2_with fail
          refine (cgo_any HC9.out q (by omega)).mono ?_
          rintro e w10 ⟨rfl, h10, k10⟩
          have H10 := Lib.hid h10
          have HB10 := Lib.hid (k10.onto HB9.out HB9.out.size (by simp; omega))
          have FB10 := Lib.hid (FB9.out.kp k10 (by simp; omega))
          clear h10 k10 HC9 HB9 FB9
          go_wp2_with fail
          go_roundw
          case rel => exact ⟨k + 1, by omega, by go_num, ⟨_, H10.out, HY.out⟩, HB10.out, FB10.out⟩
          case measure => simp [intOf]; omega
        · obtain rfl : k = 64 := by omega
          have HP : Hid ((y.pl : Int) = 1) := Lib.hid (by rw [y2]; rfl)
          clear y1 y2 y3 y4 y5
          go_wp2_with fail
          refine (cplace_v HC.out HP.out).mono ?_
          rintro e w' ⟨rfl, rfl⟩
          go_wp2_with fail
          go_ret
          exact ⟨rfl, HB.out⟩

theorem own : ownKnob Try.prog.godebug = none := by kernel_rfl
theorem laidOut : laidOutB Try.prog = true := by kernel_rfl
set_option maxRecDepth 100000 in
theorem lifted (os : Os) (started : os.Started) (H : Type) (enc : TypeId × Value → H) :
    ReturnsInHanded {} Try.checked os 10 .any (Rows.waveRoundSpec.pre6 enc Try.prog Try.f10 Rows.waveRoundRow.domain false) (Rows.waveRoundSpec.post enc Try.prog Try.f10 false true false false) := by
  refine returnsInHanded_of_change (C := Try.checked) own started (by kernel_rfl) Try.func10
    (ChangeSpec.witness6 (enc := enc) (C := Try.checked) false ⟨#[], #[.agg #[.int .u8 0, .int .u8 0, .int .u8 0, .int .u8 0, .int .u8 0, .int .u8 0, .int .u8 0, .int .u8 0, .int .u8 0, .int .u8 0, .int .u8 0, .int .u8 0, .int .u8 0, .int .u8 0, .int .u8 0, .int .u8 0, .int .u8 0, .int .u8 0, .int .u8 0, .int .u8 0, .int .u8 0, .int .u8 0, .int .u8 0, .int .u8 0, .int .u8 0, .int .u8 0, .int .u8 0, .int .u8 0, .int .u8 0, .int .u8 0, .int .u8 0, .int .u8 0], .int .u16 0], []⟩ 8 (by kernel_rfl) (by kernel_rfl) (by kernel_rfl) (by kernel_rfl)) ?_
  intro W base args ds gs before hval0 hW _ _
  have hval : ∀ (j : Nat) t v, Try.f10.params[j]? = some t → args[j]? = some v → Value.okWide Try.prog W .any base t v := hval0
  have hW' := hW
  obtain ⟨p, q, hA0, hV, rfl, _, _⟩ := hW
  have hA : DataW.TrodAll enc Try.prog W 0 (fun _ => true) true Try.f10.params.toList args.toList ds p := hA0
  rw [Try.params10] at hA hval
  obtain ⟨v0, vs0, d0, ds0, p0, q0, hargs, rfl, rfl, h0, r0⟩ := trodAll_cons hA
  obtain ⟨v1, vs1, d1, ds1, p1, q1, rfl, rfl, rfl, h1, r1⟩ := trodAll_cons r0
  obtain ⟨rfl, rfl, rfl⟩ := trodAll_nil r1
  obtain rfl : args = #[v0, v1] := by cases args; simp_all
  obtain ⟨rfl, rfl⟩ := trodVars_none hV
  obtain ⟨cs0, z0, rfl, s0, k0, u0⟩ := array_ints Try.underlying57 Try.underlying5 (by kernel_rfl) (by kernel_rfl) (hval 0 57 v0 rfl rfl) h0
  obtain rfl := arr32 s0 k0
  obtain ⟨a1, rfl, rfl, rfl, w1⟩ := open_int Try.underlying23 (hval 1 23 v1 rfl rfl) h1
  clear hA0 hval0
  refine (walk z0 u0 a1 w1 W).mono fun e W' ⟨he, hg⟩ => ?_
  subst he
  exact ⟨_, rfl, law_post rfl Try.underlying4 laidOut (by kernel_rfl) rfl hW' rfl hg⟩

theorem over : Rows.waveRoundRow.holds Try.pinned (OpenSpec.ofChange Rows.waveRoundSpec) :=
  OpenClaim.holds_of_wide 10 Try.f10 rfl rfl rfl rfl rfl rfl rfl ⟨rfl, rfl, rfl, rfl, rfl⟩ rfl rfl rfl rfl rfl (by kernel_rfl) Try.func10 (by kernel_rfl)
    (of_decide_eq_true (by kernel_rfl)) (by unfold Func.isWrapper; first | (rw [if_pos (by decide +kernel)]; kernel_rfl) | (rw [if_neg (by decide +kernel)]; exact ⟨rfl, rfl⟩))
    (fun os started H enc _ => lifted os started H enc)

theorem proved : Rows.WaveRoundSaid := over
#print axioms proved
end Go.Proofs.Ytcnjekballnncaa.waveRound
