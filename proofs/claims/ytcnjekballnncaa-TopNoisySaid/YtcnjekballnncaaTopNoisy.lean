/-
  For every input TopNoisy returns true, and each argument reads behind the call as it read before. No conditions.
-/
import Derived.Test.YtcnjekballnncaaRows
import Derived.Test.YtcnjekballnncaaG3
import Derived.Test.YtcnjekballnncaaG1
import Derived.Test.YtcnjekballnncaaWav11
import Derived.Test.YtcnjekballnncaaNoi9
namespace Go.Proofs.Ytcnjekballnncaa.topNoisy
open Go.ChangeShapes Go.WideShapes Go.ChangeAt Go.RowKit
open Go.ChangeMaps (open_string)

theorem orF : ∀ f : Fin 256, 128 ≤ bits .or .u8 128 (f.val : Int) ∧ bits .or .u8 128 (f.val : Int) ≤ 255 := by decide +kernel
theorem andF : ∀ f : Fin 256, 0 ≤ bits .and .u8 (f.val : Int) 127 ∧ bits .and .u8 (f.val : Int) 127 ≤ 127 := by decide +kernel
theorem go_ny {y : Cw} (hn : y.ns = true) (N : Nat) : (y.go N).nz = y.nz.go N ∧ (y.go N).ct = y.ct ∧ (y.go N).ns = true := by
  unfold Cw.go Cw.goN Cw.goW
  rw [if_pos hn]
  split <;> exact ⟨rfl, rfl, hn⟩
theorem lvl_ny {y : Cw} (hc : y.ct = 159) : y.on = true ∧ y.lvl = if y.ns = true then lvN y.nz.st else y.wv y.pl := by
  have e1 : y.on = true := by unfold Cw.on; rw [hc]; kernel_rfl
  have e2 : y.tell = false := by unfold Cw.tell; rw [hc]; kernel_rfl
  refine ⟨e1, ?_⟩
  unfold Cw.lvl
  rw [e1, e2]
  simp

set_option linter.unusedVariables false
set_option linter.unusedSimpArgs false
set_option maxRecDepth 100000 in
set_option maxHeartbeats 8000000 in
theorem walk {W : World} (f : Int) (wf : (Lit.int .u8 f).wf = true) (A2 : Option Addr) (n2 c2 : Nat) (z2 : Nat → Int) (hnc2 : n2 ≤ c2) (hm2 : c2 ≤ maxLen) (R2 : IRow W .u16 A2 n2 z2) (l : Int) (wl : (Lit.int .u8 l).wf = true) :
    Calls Try.prog 11 #[.int .u8 f, .slice A2 n2 c2, .int .u8 l] W fun e w' => e = .returned (.bool true) ∧ Below W.heap.size W w' := by
  unfold maxLen at hm2
  obtain ⟨f0, f1⟩ := bounds_u8 wf
  obtain ⟨l0, l1⟩ := bounds_u8 wl
  have HR2 := Lib.hid R2
  have HBIT : Hid (bitB 1 0 = true) := Lib.hid (by kernel_rfl)
  obtain ⟨F, hF⟩ : ∃ F, bits .or .u8 128 f = F := ⟨_, rfl⟩
  obtain ⟨G, hG⟩ : ∃ G, bits .and .u8 f 127 = G := ⟨_, rfl⟩
  obtain ⟨F0, F1⟩ : 128 ≤ F ∧ F ≤ 255 := by
    have := orF ⟨f.toNat, by omega⟩
    rw [show ((⟨f.toNat, by omega⟩ : Fin 256).val : Int) = f by simp; omega, hF] at this
    exact this
  obtain ⟨G0, G1⟩ : 0 ≤ G ∧ G ≤ 127 := by
    have := andF ⟨f.toNat, by omega⟩
    rw [show ((⟨f.toNat, by omega⟩ : Fin 256).val : Int) = f by simp; omega, hG] at this
    exact this
  clear R2 wf wl
  by_cases h1 : 60 < n2
  · have j1 : (60 : Int) < n2 := by omega
    go_enter Try.func11, Try.ntmps11
    go_wp2_with fail
    refine (bit_any 1 0 _).mono ?_
    rw [HBIT.out]
    rintro e w' ⟨rfl, rfl⟩
    go_wp2_with fail
    refine (cnew_any _).mono ?_
    rintro e w1 ⟨g, rfl, hg, h1, b1⟩
    have HB1 : Hid (Below W.heap.size W w1) := Lib.hid b1
    have H1 := Lib.hid h1
    clear h1 b1
    go_wp2_with fail
    refine (nnew_any 0 _ (by decide) (by decide)).mono ?_
    rintro e w2 ⟨rfl, t2, b2⟩
    have hs1 : W.heap.size ≤ w1.heap.size := HB1.out.size
    have hgl := H1.out.lt
    have H2 := Lib.hid (H1.out.keep b2 H1.out.lt)
    have HB2 := Lib.hid (HB1.out.trans (b2.mono hs1))
    have T2 : Hid (N0 w2 w1.heap.size (Nz.new 0)) := Lib.hid t2
    clear t2 b2 H1 HB1
    generalize w1.heap.size = u at *
    go_wp2_with fail
    go_ret
    exact ⟨rfl, HB2.out⟩
  have j1 : ¬ (60 : Int) < n2 := by omega
  go_enter Try.func11, Try.ntmps11
  go_wp2_with fail
  refine (bit_any 1 0 _).mono ?_
  rw [HBIT.out]
  rintro e w' ⟨rfl, rfl⟩
  go_wp2_with fail
  refine (cnew_any _).mono ?_
  rintro e w1 ⟨g, rfl, hg, h1, b1⟩
  have HB1 : Hid (Below W.heap.size W w1) := Lib.hid b1
  have H1 := Lib.hid h1
  clear h1 b1
  go_wp2_with fail
  refine (nnew_any 0 _ (by decide) (by decide)).mono ?_
  rintro e w2 ⟨rfl, t2, b2⟩
  have hs1 : W.heap.size ≤ w1.heap.size := HB1.out.size
  have hgl := H1.out.lt
  have H2 := Lib.hid (H1.out.keep b2 H1.out.lt)
  have HB2 := Lib.hid (HB1.out.trans (b2.mono hs1))
  have T2 : Hid (N0 w2 w1.heap.size (Nz.new 0)) := Lib.hid t2
  clear t2 b2 H1 HB1
  generalize w1.heap.size = u at *
  go_wp2_with fail
  refine (cwrite_any H2.out 6 l l0 l1).mono ?_
  rintro e w3 ⟨rfl, h3, k3⟩
  have H3 := Lib.hid h3
  have HB3 := Lib.hid (k3.onto HB2.out HB2.out.size (by simp; omega))
  have T3 : Hid (N0 w3 u (Nz.new 0)) := Lib.hid (NZ.kp T2.out k3 (by simp; omega))
  clear h3 k3 H2 HB2 T2
  go_wp2_with fail
  refine (cwrite_any H3.out 7 F (by omega) F1).mono ?_
  rintro e w4 ⟨rfl, h4, k4⟩
  have H4 := Lib.hid h4
  have HB4 := Lib.hid (k4.onto HB3.out HB3.out.size (by simp; omega))
  have T4 : Hid (N0 w4 u (Nz.new 0)) := Lib.hid (NZ.kp T3.out k4 (by simp; omega))
  clear h4 k4 H3 HB3 T3
  go_wp2_with fail
  refine (cwrite_any H4.out 4 159 (by decide) (by decide)).mono ?_
  rintro e w5 ⟨rfl, h5, k5⟩
  have H5 := Lib.hid h5
  have HB5 := Lib.hid (k5.onto HB4.out HB4.out.size (by simp; omega))
  have T5 : Hid (N0 w5 u (Nz.new 0)) := Lib.hid (NZ.kp T4.out k5 (by simp; omega))
  clear h5 k5 H4 HB4 T4
  obtain ⟨X, hX⟩ : ∃ X, ((Cw.new.wr 6 l).wr 7 F).wr 4 159 = X := ⟨_, rfl⟩
  have x1 : X.nz = (Nz.new 0).set F := by rw [← hX]; rfl
  have x2 : X.ct = 159 := by rw [← hX]; rfl
  have x3 : X.ns = true := by
    rw [← hX]
    show bitB F 7 = true
    rw [bit7_eq (by omega) F1, decide_eq_true F0]
  have HX : Hid (CW w5 g X) := Lib.hid (hX ▸ H5.out)
  clear hX H5
  go_wp2_with fail
  refine (nset_any T5.out F (by omega) F1).mono ?_
  rintro e w6 ⟨rfl, y6, k6⟩
  have H6 := Lib.hid (HX.out.kp k6 (by simp; omega))
  have HB6 := Lib.hid (k6.onto HB5.out HB5.out.size (by simp; omega))
  have T6 : Hid (N0 w6 u X.nz) := Lib.hid (x1 ▸ y6)
  clear y6 k6 HX HB5 T5
  go_wp2_with fail
  go_loopw [9] (fun i wr => ∃ k : Nat, k ≤ n2 ∧ i = .int .i64 k ∧ (∃ y, CW wr g y ∧ N0 wr u y.nz ∧ y.ct = 159 ∧ y.ns = true) ∧ Below W.heap.size W wr) (fun i _ => n2 - (intOf i).toNat)
  case atStart => exact ⟨0, Nat.zero_le _, rfl, ⟨X, H6.out, T6.out, x2, x3⟩, HB6.out⟩
  case round =>
    obtain ⟨k, hk, rfl, ⟨y, hC, hT, y1, y2⟩, hB⟩ := hrel
    have HC := Lib.hid hC
    have HT := Lib.hid hT
    have HB := Lib.hid hB
    clear hC hT hB H6 HB6 T6
    by_cases hlt : k < n2
    · obtain ⟨ad, rfl, hl, hc, hw⟩ := IRow.keep HR2.out HB.out k hlt
      have hl0 : ad.block < W.heap.size := by
        obtain ⟨_, e, hl0, _⟩ := HR2.out k hlt
        cases e; exact hl0
      obtain ⟨q0, q1⟩ := bounds_u16 hw
      obtain ⟨q, hq⟩ := Int.eq_ofNat_of_zero_le q0
      rw [hq] at hc q1
      have i0 : (0 : Int) ≤ (k : Int) := by omega
      have i1 : (k : Int) < n2 := by omega
      have hwq : IntKind.i64.wrap (q : Int) = q := IntWalk.i64_in _ (by omega)
      obtain ⟨g1, g2, g3⟩ := go_ny y2 q
      obtain ⟨o1, o2⟩ := lvl_ny (g2.trans y1)
      rw [if_pos g3] at o2
      obtain ⟨v, hv⟩ : ∃ v, lvN (y.go q).nz.st = v := ⟨_, rfl⟩
      have HV := Lib.hid hv
      have HV2 : Hid ((y.go q).lvl = v) := Lib.hid (o2.trans hv)
      have m1 : (v != v) = false := by simp
      clear hw hq q0 o1 o2 hv
      go_wp2_with fail
      refine (cgo_any HC.out q (by omega)).mono ?_
      rintro e wa ⟨rfl, ha, ka⟩
      have HA := Lib.hid ha
      have TA : Hid (N0 wa u y.nz) := Lib.hid (NZ.kp HT.out ka (by simp; omega))
      have BA := Lib.hid (ka.onto HB.out HB.out.size (by simp; omega))
      have hcA : wa.cell? (ad.add k) = some (.int .u16 q) := (ka.cell (p := ad.add k) (by rw [block_of_add]; exact hl) (by rw [block_of_add]; simp; omega)).trans hc
      clear ha ka HC HT HB hc
      go_wp2_with fail
      refine (ngo_v TA.out q rfl (by omega) g1.symm).mono ?_
      rintro e wb ⟨rfl, hb, kb⟩
      have TB : Hid (N0 wb u (y.go q).nz) := Lib.hid hb
      have HA2 := Lib.hid (HA.out.kp kb (by simp; omega))
      have BB := Lib.hid (kb.onto BA.out BA.out.size (by simp; omega))
      clear hb kb HA TA BA hcA
      go_wp2_with fail
      refine (clevel_v HA2.out HV2.out).mono ?_
      rintro e wc ⟨rfl, bc⟩
      have HC3 := Lib.hid (HA2.out.keep bc HA2.out.lt)
      have TC : Hid (N0 wc u (y.go q).nz) := Lib.hid (NZ.keep TB.out bc (NZ.lt TB.out))
      have BC := Lib.hid (BB.out.trans (bc.mono BB.out.size))
      clear bc HA2 TB BB
      go_wp2_with fail
      refine (nlevel_v TC.out HV.out).mono ?_
      rintro e w' ⟨rfl, rfl⟩
      go_wp2_with fail
      go_roundw
      case rel => exact ⟨k + 1, by omega, by go_num, ⟨_, HC3.out, TC.out, g2.trans y1, g3⟩, BC.out⟩
      case measure => simp [intOf]; omega
    · obtain rfl : k = n2 := by omega
      go_wp2_with fail
      refine (cwrite_any HC.out 7 G G0 (by omega)).mono ?_
      rintro e wa ⟨rfl, ha, ka⟩
      obtain ⟨Z, hZ⟩ : ∃ Z, y.wr 7 G = Z := ⟨_, rfl⟩
      rw [hZ] at ha
      have z1 : Z.ct = 159 := by rw [← hZ]; exact y1
      have z2 : Z.ns = false := by
        rw [← hZ]
        show bitB G 7 = false
        rw [bit7_eq G0 (by omega), decide_eq_false (by omega)]
      obtain ⟨o1, o2⟩ := lvl_ny z1
      rw [z2, if_neg (by simp)] at o2
      have hp : Z.pl < 32 := ha.2.2.1
      obtain ⟨v, hv⟩ : ∃ v, Z.wv Z.pl = v := ⟨_, rfl⟩
      have hx := fun W => run_index_agg (P := Try.prog) (t := 57) Try.underlying57 (by kernel_rfl) (cs := iArr .u8 32 Z.wv) (k := .i64) (i := (Z.pl : Int)) (v := .int .u8 v) (by omega) (by omega) (hv ▸ iArr_at .u8 32 Z.wv Z.pl hp) W
      have O1 := Lib.hid o1
      have O2 : Hid (Z.lvl = v) := Lib.hid (o2.trans hv)
      have O3 : Hid (Z.ct % 32 = 31) := Lib.hid (by rw [z1]; rfl)
      have m1 : (v == v) = true := by simp
      have HA := Lib.hid ha
      have BA := Lib.hid (ka.onto HB.out HB.out.size (by simp; omega))
      clear ha ka HC HT HB hZ z1 z2 o1 o2 hv
      go_wp2_with fail
      refine (con_v HA.out O1.out).mono ?_
      rintro e w' ⟨rfl, rfl⟩
      go_wp2_with fail
      refine (clevel_v HA.out O2.out).mono ?_
      rintro e wb ⟨rfl, bb⟩
      have HA2 := Lib.hid (HA.out.keep bb HA.out.lt)
      have BB := Lib.hid (BA.out.trans (bb.mono BA.out.size))
      clear bb HA BA
      go_wp2_with fail
      refine (cwave_any HA2.out).mono ?_
      rintro e wc ⟨rfl, bc⟩
      have HA3 := Lib.hid (HA2.out.keep bc HA2.out.lt)
      have BC := Lib.hid (BB.out.trans (bc.mono BB.out.size))
      clear bc HA2 BB
      go_wp2_with fail
      refine (cplace_any HA3.out).mono ?_
      rintro e w' ⟨rfl, rfl⟩
      go_wp2_with fail
      refine (cvol_v HA3.out O3.out).mono ?_
      rintro e w' ⟨rfl, rfl⟩
      go_wp2_with fail
      go_ret
      exact ⟨rfl, BC.out⟩

theorem own : ownKnob Try.prog.godebug = none := by kernel_rfl
theorem laidOut : laidOutB Try.prog = true := by kernel_rfl
set_option maxRecDepth 100000 in
theorem lifted (os : Os) (started : os.Started) (H : Type) (enc : TypeId × Value → H) :
    ReturnsInHanded {} Try.checked os 11 .any (Rows.topNoisySpec.pre6 enc Try.prog Try.f11 Rows.topNoisyRow.domain false) (Rows.topNoisySpec.post enc Try.prog Try.f11 false true false false) := by
  refine returnsInHanded_of_change (C := Try.checked) own started (by kernel_rfl) Try.func11
    (ChangeSpec.witness6 (enc := enc) (C := Try.checked) false ⟨#[], #[.int .u8 0, .slice none 0 0, .int .u8 0], []⟩ 8 (by kernel_rfl) (by kernel_rfl) (by kernel_rfl) (by kernel_rfl)) ?_
  intro W base args ds gs before hval0 hW _ _
  have hval : ∀ (j : Nat) t v, Try.f11.params[j]? = some t → args[j]? = some v → Value.okWide Try.prog W .any base t v := hval0
  have hW' := hW
  obtain ⟨p, q, hA0, hV, rfl, _, _⟩ := hW
  have hA : DataW.TrodAll enc Try.prog W 0 (fun _ => true) true Try.f11.params.toList args.toList ds p := hA0
  rw [Try.params11] at hA hval
  obtain ⟨v0, vs0, d0, ds0, p0, q0, hargs, rfl, rfl, h0, r0⟩ := trodAll_cons hA
  obtain ⟨v1, vs1, d1, ds1, p1, q1, rfl, rfl, rfl, h1, r1⟩ := trodAll_cons r0
  obtain ⟨v2, vs2, d2, ds2, p2, q2, rfl, rfl, rfl, h2, r2⟩ := trodAll_cons r1
  obtain ⟨rfl, rfl, rfl⟩ := trodAll_nil r2
  obtain rfl : args = #[v0, v1, v2] := by cases args; simp_all
  obtain ⟨rfl, rfl⟩ := trodVars_none hV
  obtain ⟨a0, rfl, rfl, rfl, w0⟩ := open_int Try.underlying5 (hval 0 5 v0 rfl rfl) h0
  obtain ⟨A1, n1, c1, z1, rfl, g1, m1, R1⟩ := slice_ints Try.underlying60 Try.underlying23 (by kernel_rfl) (hval 1 60 v1 rfl rfl) h1
  obtain ⟨a2, rfl, rfl, rfl, w2⟩ := open_int Try.underlying5 (hval 2 5 v2 rfl rfl) h2
  clear hA0 hval0
  refine (walk a0 w0 A1 n1 c1 z1 g1 m1 R1 a2 w2).mono fun e W' ⟨he, hg⟩ => ?_
  subst he
  exact ⟨_, rfl, law_post rfl Try.underlying4 laidOut (by kernel_rfl) rfl hW' rfl hg⟩

theorem over : Rows.topNoisyRow.holds Try.pinned (OpenSpec.ofChange Rows.topNoisySpec) :=
  OpenClaim.holds_of_wide 11 Try.f11 rfl rfl rfl rfl rfl rfl rfl ⟨rfl, rfl, rfl, rfl, rfl⟩ rfl rfl rfl rfl rfl (by kernel_rfl) Try.func11 (by kernel_rfl)
    (of_decide_eq_true (by kernel_rfl)) (by unfold Func.isWrapper; first | (rw [if_pos (by decide +kernel)]; kernel_rfl) | (rw [if_neg (by decide +kernel)]; exact ⟨rfl, rfl⟩))
    (fun os started H enc _ => lifted os started H enc)

theorem proved : Rows.TopNoisySaid := over
#print axioms proved
end Go.Proofs.Ytcnjekballnncaa.topNoisy
