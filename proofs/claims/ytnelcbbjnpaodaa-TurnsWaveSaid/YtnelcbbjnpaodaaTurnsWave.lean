/-
  For every input TurnsWave returns true, and each argument reads behind the call as it read before. No conditions.
-/
import Derived.Test.YtnelcbbjnpaodaaRows
import Derived.Test.YtnelcbbjnpaodaaG3
import Derived.Test.YtnelcbbjnpaodaaTrn11
import Derived.Test.YtnelcbbjnpaodaaG11
import Derived.Test.YtnelcbbjnpaodaaG13
import Derived.Test.YtnelcbbjnpaodaaG9
namespace Go.Proofs.Ytnelcbbjnpaodaa.turnsWave
open Go.ChangeShapes Go.WideShapes Go.ChangeAt Go.RowKit
open Go.ChangeMaps (open_string)

theorem arr32 {k : IntKind} {cs : Array Value} {zs : Nat → Int} (hs : cs.size = 32) (h : ∀ i, i < 32 → cs[i]? = some (.int k (zs i))) : cs = iArr k 32 zs := ext4 hs h
theorem tinfoI : (Try.prog.info? 3).map (fun i => (i.zero, i.size, i.bytes)) = some (some (.int .i64 0), 1, 8) := by kernel_rfl
theorem intsOf_snoc (z : Nat → Int) (k : Nat) : intsOf .i64 z k ++ [.int .i64 (z k)] = intsOf .i64 z (k + 1) := by
  unfold intsOf
  rw [List.range_succ, List.map_append]
  rfl

set_option linter.unusedVariables false
set_option linter.unusedSimpArgs false
set_option maxRecDepth 100000 in
set_option maxHeartbeats 8000000 in
theorem walk (z : Nat → Int) (wz : ∀ i, (Lit.int .u8 (z i)).wf = true) (W : World) :
    Calls Try.prog 7 #[.agg (iArr .u8 32 z)] W fun e w' => e = .returned (.bool true) ∧ Below W.heap.size W w' := by
  have HZ : Hid (∀ i, 0 ≤ z i ∧ z i ≤ 255) := Lib.hid fun i => bounds_u8 (wz i)
  have HCL : Hid (∀ (w' : World) (gb k : Nat), Blk w' gb 39 (iArr .u8 32 z) → k < 32 → w'.cell? ⟨gb, k, none⟩ = some (.int .u8 (z k))) := Lib.hid fun w' gb k h hk => by rw [h.cell k, iArr_at .u8 32 z k hk]
  clear wz
  obtain ⟨V, hV⟩ : ∃ V, fsm (wrw z) 32 = V := ⟨_, rfl⟩
  obtain ⟨e0, f0⟩ := wrw_ok z
  have E0 := Lib.hid e0
  have F0 : Hid (iArr .i64 4 (fldV (wrw z) 32) = #[.int .i64 (V 0), .int .i64 (V 1), .int .i64 (V 2), .int .i64 (V 3)]) := Lib.hid ((iArr_congr (f' := V) fun i _ => by rw [f0 i, hV]).trans rfl)
  have HVb : Hid (∀ i, (V i).natAbs ≤ 1073741824) := Lib.hid fun i => by rw [← hV, ← f0 i]; exact fldV_bd _ _ i
  have HV := Lib.hid hV
  clear e0 f0 hV
  go_enter Try.func7, Try.ntmps7
  go_wp2_with fail
  have FB := Lib.hid (Blk.new W 39 (iArr .u8 32 z))
  have QB := Lib.hid ((Below.refl W.heap.size W).alloc (Nat.le_refl _) (.cells (iArr .u8 32 z) 39))
  generalize World.alloc W _ = w0 at *
  refine (liveT_any _).mono ?_
  rintro e w1 ⟨rfl, b1⟩
  have QB := Lib.hid (QB.out.trans (b1.mono QB.out.size))
  have FB := Lib.hid (FB.out.below b1 FB.out.lt)
  clear b1
  obtain ⟨gl, hgl⟩ : ∃ h, W.heap.size = h := ⟨_, rfl⟩
  rw [hgl] at FB
  obtain ⟨S0, hS0⟩ : ∃ s, w1.heap.size = s := ⟨_, rfl⟩
  have hlt0 : gl < S0 := by rw [← hS0]; exact FB.out.lt
  have hB0 : Below S0 w1 w1 := hS0 ▸ Below.refl _ _
  have HB0 := Lib.hid hB0
  have HWS : Hid (W.heap.size ≤ S0) := Lib.hid (by rw [hgl]; omega)
  have HS0 := Lib.hid hS0
  clear hB0 hS0
  go_upto_region 4 with fail
  clear hgl
  go_wp2_with fail
  go_loopw [3, 4] (fun v i wr => ∃ k : Nat, k ≤ 32 ∧ i = .int .i64 k ∧ wr.ownsRow S0 3 1 v k (intsOf .i64 (wrw z) k) ∧ Below S0 w1 wr ∧ Blk wr gl 39 (iArr .u8 32 z)) (fun _ i _ => 32 - (intOf i).toNat)
  case atStart => exact ⟨0, by omega, rfl, ⟨rfl, Or.inl ⟨rfl, rfl⟩⟩, HB0.out, FB.out⟩
  case round =>
    obtain ⟨k, hk, rfl, hown, hB, hF⟩ := hrel
    have HO := Lib.hid hown
    have HB := Lib.hid hB
    have FB := Lib.hid hF
    clear hown hB hF HB0
    by_cases hlt : k < 32
    · have i0 : (0 : Int) ≤ (k : Int) := by omega
      have i1 : (k : Int) < 32 := by omega
      have hc := HCL.out _ _ k FB.out hlt
      obtain ⟨z0, z1⟩ := HZ.out k
      obtain ⟨v, hv⟩ : ∃ v, z k = v := ⟨_, rfl⟩
      have hw : wrw z k = 2 * (v % 32) - 31 := by unfold wrw; rw [hv]
      rw [hv] at hc z0 z1
      have hmod : v.tmod 32 = v % 32 := Int.tmod_eq_emod_of_nonneg z0
      have hSB : S0 ≤ wr.heap.size := by have := HB.out.size; rw [HS0.out] at this; exact this
      obtain ⟨v', w', hrun, o2, g2⟩ := more_new (P := Try.prog) (t := 22) (e := 3) (ty := 22) (size := 1) (bytes := 8) (z := .int .i64 0) (m := 1) (c := 1) Try.underlying22 tinfoI rfl (by decide) HO.out #[.int .i64 (2 * (v % 32) - 31)] rfl (fun u hu => by simp at hu; subst hu; rfl) rfl (by omega) (by omega) hSB
      rw [← hw, show (#[Value.int .i64 (wrw z k)] : Array Value).toList = [.int .i64 (wrw z k)] from rfl, intsOf_snoc] at o2
      have hg : Below S0 w1 w' := (HB.out.alloc hSB (.cells #[.int .i64 (2 * (v % 32) - 31)] 3)).grown g2 (by simp; omega) (fun k h => (HO.out.lt k h).1)
      have hf2 : Blk w' gl 39 (iArr .u8 32 z) := Blk.grown (FB.out.alloc _) g2 (fun e => by have := (HO.out.lt gl e.symm).1; omega)
      have O2 := Lib.hid o2
      have HG := Lib.hid hg
      have HF2 := Lib.hid hf2
      clear hv hw o2 g2 hg hf2 hSB
      go_wp2_with (at_builtin; refine wpList_append_run rfl (.tmp 13) (.tmp 21) 22 rfl rfl rfl hrun ?_)
      go_roundw
      case rel => exact ⟨k + 1, by omega, by go_num, O2.out, HG.out, HF2.out⟩
      case measure => simp [intOf]; omega
    · have i1 : ¬ (k : Int) < 32 := by omega
      obtain rfl : k = 32 := by omega
      obtain ⟨A, cap, rfl, _, _, hIR, _⟩ := own_row HO.out (fun i _ => WalkArith.wf_i64 (by have := wrw_bd z i; omega))
      have HIR := Lib.hid hIR
      have QB := Lib.hid (QB.out.trans (HB.out.mono (by have := HWS.out; omega)))
      clear hIR HO HB
      go_wp2_with fail
      refine (trfold_any (z := wrw z) (n := 32) (c := cap) HIR.out (by decide)).mono ?_
      rw [E0.out, F0.out]
      rintro e w4 ⟨rfl, b4⟩
      have KFB : Blk (w4.alloc (.cells #[.int .i64 (V 0), .int .i64 (V 1), .int .i64 (V 2), .int .i64 (V 3)] 24)) gl 39 (iArr .u8 32 z) := (FB.out.below b4 FB.out.lt).alloc _
      have KN : Blk (w4.alloc (.cells #[.int .i64 (V 0), .int .i64 (V 1), .int .i64 (V 2), .int .i64 (V 3)] 24)) w4.heap.size 24 #[.int .i64 (V 0), .int .i64 (V 1), .int .i64 (V 2), .int .i64 (V 3)] := Blk.new w4 _ _
      have KB : Below W.heap.size W (w4.alloc (.cells #[.int .i64 (V 0), .int .i64 (V 1), .int .i64 (V 2), .int .i64 (V 3)] 24)) := (QB.out.trans (b4.mono QB.out.size)).alloc (Nat.le_trans QB.out.size b4.size) _
      obtain ⟨gf, hgf⟩ : ∃ h, w4.heap.size = h := ⟨_, rfl⟩
      rw [hgf] at KN
      have FB := Lib.hid KFB
      have Hgf := Lib.hid KN
      have QB := Lib.hid KB
      clear KFB KN KB b4
      go_upto_region 9 with fail
      generalize World.alloc _ _ = v4 at *
      clear hgf
      have hL : Hid ((Try.prog.info? 39).map (·.size) = some (iArr .u8 32 z).size) := Lib.hid (by rw [iArr_size]; exact tinfoL)
      have q1 : ∀ w, (Op.equalIn 10000 29 (.agg #[.int .i64 (bns V 0), .int .i64 (bns V 1), .int .i64 (bns V 2), .int .i64 (bns V 3), .int .i64 (bns V 4), .int .i64 (bns V 5), .int .i64 (bns V 6), .int .i64 (bns V 7)]) (.agg #[.int .i64 (bns V 0), .int .i64 (bns V 1), .int .i64 (bns V 2), .int .i64 (bns V 3), .int .i64 (bns V 4), .int .i64 (bns V 5), .int .i64 (bns V 6), .int .i64 (bns V 7)])).run Try.prog w = .ok true w := fun w => by rw [teq8 (bns V) (bns V) w]; simp
      have HBQ : Hid (vArr 8 (bnV V) = #[.int .i64 (bns V 0), .int .i64 (bns V 1), .int .i64 (bns V 2), .int .i64 (bns V 3), .int .i64 (bns V 4), .int .i64 (bns V 5), .int .i64 (bns V 6), .int .i64 (bns V 7)]) := Lib.hid rfl
      refine rg_begin (S := fun w' => Blk w' gl 39 (iArr .u8 32 z) ∧ Blk w' gf 24 #[.int .i64 (V 0), .int .i64 (V 1), .int .i64 (V 2), .int .i64 (V 3)]) 6 #[false, false, false, false, false, false] (by kernel_rfl) (by kernel_rfl) (by kernel_rfl) ?_ (fun hHeld => ?_)
      · exact ⟨FB.out.drew_, Hgf.out.drew_⟩
      refine rg_take (i := 0) (d := some 28) (l := #[true, false, false, false, false, false]) (fuel := 5) (v := .agg (iArr .u8 32 z)) rfl (by kernel_rfl) (by kernel_rfl) (by kernel_rfl) (by kernel_rfl) (by kernel_rfl) (fun _ _ _ h => h) (by kernel_rfl) ?_ (by assumption) ?_
      · (intro wS hSw; (try dsimp only at hSw); exact exec_load_row 39 (.tmp 1) rfl gl rfl 39 (iArr .u8 32 z) (0, 0) _ hSw.1 Try.underlying39 rfl hL.out)
      try simp only [Act.put, List.setIfInBounds_toArray, List.set_cons_zero, List.set_cons_succ]
      refine rg_take (i := 2) (d := some 30) (l := #[true, false, true, false, false, false]) (fuel := 4) (v := .agg #[.int .i64 (V 0), .int .i64 (V 1), .int .i64 (V 2), .int .i64 (V 3)]) rfl (by kernel_rfl) (by kernel_rfl) (by kernel_rfl) (by kernel_rfl) (by kernel_rfl) (fun _ _ _ h => h) (by kernel_rfl) ?_ (by assumption) ?_
      · (intro wS hSw; (try dsimp only at hSw); exact exec_load_row 24 (.tmp 5) rfl gf rfl 24 #[.int .i64 (V 0), .int .i64 (V 1), .int .i64 (V 2), .int .i64 (V 3)] (0, 0) _ hSw.2 Try.underlying24 rfl (by kernel_rfl))
      try simp only [Act.put, List.setIfInBounds_toArray, List.set_cons_zero, List.set_cons_succ]
      refine rg_next (i := 1) (l := #[true, true, true, false, false, false]) (fuel := 3) (by kernel_rfl) rfl (by kernel_rfl) (by kernel_rfl) (fun K hK => ?_)
      go_simp
      (go_at_call 19)
      refine (twave_any z HZ.out _).mono ?_
      rw [HV.out, HBQ.out]
      rintro e w7 ⟨rfl, b7⟩
      have FB := Lib.hid (FB.out.drew_.below b7 FB.out.lt)
      have Hgf := Lib.hid (Hgf.out.drew_.below b7 Hgf.out.lt)
      have QB := Lib.hid (QB.out.drew.trans (b7.mono QB.out.size))
      clear b7
      first | (refine hK.out _ _ ?_ (fun hHeld => ?_)) | (go_wp2_with fail; refine hK.out _ _ ?_ (fun hHeld => ?_))
      · (try dsimp only); exact ⟨FB.out, Hgf.out⟩
      clear hK K
      try simp only [Act.put, List.setIfInBounds_toArray, List.set_cons_zero, List.set_cons_succ]
      refine rg_next (i := 3) (l := #[true, true, true, true, false, false]) (fuel := 2) (by kernel_rfl) rfl (by kernel_rfl) (by kernel_rfl) (fun K hK => ?_)
      go_simp
      (go_at_call 14)
      refine (tbins_any V (fun i _ => by have := HVb.out i; omega) _).mono ?_
      rw [HBQ.out]
      rintro e w8 ⟨rfl, b8⟩
      have FB := Lib.hid (FB.out.below b8 FB.out.lt)
      have Hgf := Lib.hid (Hgf.out.below b8 Hgf.out.lt)
      have QB := Lib.hid (QB.out.trans (b8.mono QB.out.size))
      clear b8
      first | (refine hK.out _ _ ?_ (fun hHeld => ?_)) | (go_wp2_with fail; refine hK.out _ _ ?_ (fun hHeld => ?_))
      · (try dsimp only); exact ⟨FB.out, Hgf.out⟩
      clear hK K
      try simp only [Act.put, List.setIfInBounds_toArray, List.set_cons_zero, List.set_cons_succ]
      refine rg_take (i := 4) (d := some 32) (l := #[true, true, true, true, true, false]) (fuel := 1) (v := ?_) rfl (by kernel_rfl) (by kernel_rfl) (by kernel_rfl) (by kernel_rfl) (by kernel_rfl) (fun _ _ _ h => h) (by kernel_rfl) ?_ (by assumption) ?_
      rotate_left 1
      · (intro wS hSw; (try dsimp only at hSw); go_simp; try with_reducible rfl)
      try simp only [Act.put, List.setIfInBounds_toArray, List.set_cons_zero, List.set_cons_succ]
      refine rg_take (i := 5) (d := some 2) (l := #[true, true, true, true, true, true]) (fuel := 0) (v := ?_) rfl (by kernel_rfl) (by kernel_rfl) (by kernel_rfl) (by kernel_rfl) (by kernel_rfl) (fun _ _ _ h => h) (by kernel_rfl) ?_ (by assumption) ?_
      rotate_left 1
      · (intro wS hSw; (try dsimp only at hSw); go_simp; try with_reducible rfl)
      try simp only [Act.put, List.setIfInBounds_toArray, List.set_cons_zero, List.set_cons_succ]
      refine wpAnyH_done (by kernel_rfl) ?_ _
      go_wp2_with fail
      go_ret
      exact ⟨rfl, QB.out⟩

theorem own : ownKnob Try.prog.godebug = none := by kernel_rfl
theorem laidOut : laidOutB Try.prog = true := by kernel_rfl
set_option maxRecDepth 100000 in
theorem lifted (os : Os) (started : os.Started) (H : Type) (enc : TypeId × Value → H) :
    ReturnsInHanded {} Try.checked os 7 .any (Rows.turnsWaveSpec.pre6 enc Try.prog Try.f7 Rows.turnsWaveRow.domain false) (Rows.turnsWaveSpec.post enc Try.prog Try.f7 false true false false) := by
  refine returnsInHanded_of_change (C := Try.checked) own started (by kernel_rfl) Try.func7
    (ChangeSpec.witness6 (enc := enc) (C := Try.checked) false ⟨#[], #[.agg #[.int .u8 0, .int .u8 0, .int .u8 0, .int .u8 0, .int .u8 0, .int .u8 0, .int .u8 0, .int .u8 0, .int .u8 0, .int .u8 0, .int .u8 0, .int .u8 0, .int .u8 0, .int .u8 0, .int .u8 0, .int .u8 0, .int .u8 0, .int .u8 0, .int .u8 0, .int .u8 0, .int .u8 0, .int .u8 0, .int .u8 0, .int .u8 0, .int .u8 0, .int .u8 0, .int .u8 0, .int .u8 0, .int .u8 0, .int .u8 0, .int .u8 0, .int .u8 0]], []⟩ 8 (by kernel_rfl) (by kernel_rfl) (by kernel_rfl) (by kernel_rfl)) ?_
  intro W base args ds gs before hval0 hW _ _
  have hval : ∀ (j : Nat) t v, Try.f7.params[j]? = some t → args[j]? = some v → Value.okWide Try.prog W .any base t v := hval0
  have hW' := hW
  obtain ⟨p, q, hA0, hV, rfl, _, _⟩ := hW
  have hA : DataW.TrodAll enc Try.prog W 0 (fun _ => true) true Try.f7.params.toList args.toList ds p := hA0
  rw [Try.params7] at hA hval
  obtain ⟨v0, vs0, d0, ds0, p0, q0, hargs, rfl, rfl, h0, r0⟩ := trodAll_cons hA
  obtain ⟨rfl, rfl, rfl⟩ := trodAll_nil r0
  obtain rfl : args = #[v0] := by cases args; simp_all
  obtain ⟨rfl, rfl⟩ := trodVars_none hV
  obtain ⟨cs0, z0, rfl, s0, k0, u0⟩ := array_ints Try.underlying39 Try.underlying5 (by kernel_rfl) (by kernel_rfl) (hval 0 39 v0 rfl rfl) h0
  obtain rfl := arr32 s0 k0
  clear hA0 hval0
  refine (walk z0 u0 W).mono fun e W' ⟨he, hg⟩ => ?_
  subst he
  exact ⟨_, rfl, law_post rfl Try.underlying4 laidOut (by kernel_rfl) rfl hW' rfl hg⟩

theorem over : Rows.turnsWaveRow.holds Try.pinned (OpenSpec.ofChange Rows.turnsWaveSpec) :=
  OpenClaim.holds_of_wide 7 Try.f7 rfl rfl rfl rfl rfl rfl rfl ⟨rfl, rfl, rfl, rfl, rfl⟩ rfl rfl rfl rfl rfl (by kernel_rfl) Try.func7 (by kernel_rfl)
    (of_decide_eq_true (by kernel_rfl)) (by unfold Func.isWrapper; first | (rw [if_pos (by decide +kernel)]; kernel_rfl) | (rw [if_neg (by decide +kernel)]; exact ⟨rfl, rfl⟩))
    (fun os started H enc _ => lifted os started H enc)

theorem proved : Rows.TurnsWaveSaid := over
#print axioms proved
end Go.Proofs.Ytnelcbbjnpaodaa.turnsWave
