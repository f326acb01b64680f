/-
  For every input LogicUndoes returns true, and each argument reads behind the call as it read before. No conditions.
-/
import Derived.Test.YtkmcfmflihkdjaaRows
import Derived.Test.YtkmcfmflihkdjaaG3
import Derived.Test.YtkmcfmflihkdjaaLgc5
namespace Go.Proofs.Ytkmcfmflihkdjaa.logicUndoes
open Go.ChangeShapes Go.WideShapes Go.ChangeAt Go.RowKit
open Go.ChangeMaps (open_string)

set_option linter.unusedVariables false
set_option linter.unusedSimpArgs false
theorem undo_fin : ∀ v : Fin 256, ∀ c d : Bool, srV (slV (v.val : Int) c) (bitB (v.val : Int) 7) = (v.val : Int) ∧ bitB (slV (v.val : Int) c) 0 = c := by decide +kernel
theorem undo_v (v : Int) (c : Bool) (v0 : 0 ≤ v) (v1 : v ≤ 255) : srV (slV v c) (bitB v 7) = v ∧ bitB (slV v c) 0 = c := by
  have := undo_fin ⟨v.toNat, by omega⟩ c c
  rwa [show ((⟨v.toNat, by omega⟩ : Fin 256).val : Int) = v by simp; omega] at this
theorem trb_v (a v : Int) (a0 : 0 ≤ a) (a1 : a ≤ 255) (v0 : 0 ≤ v) (v1 : v ≤ 255) : bits .and .u8 (bits .andNot .u8 (bits .or .u8 v a) a) a = 0 ∧ bits .or .u8 (bits .andNot .u8 (bits .or .u8 v a) a) a = bits .or .u8 v a := by
  obtain ⟨x, rfl⟩ := fv_of a a0 a1
  obtain ⟨y, rfl⟩ := fv_of v v0 v1
  rw [fv_or, fv_andNot, fv_and, fv_or]
  constructor
  · rw [BitVec.and_assoc, show ~~~x &&& x = 0#8 by rw [BitVec.and_comm]; apply BitVec.eq_of_getLsbD_eq; intro i hi; rw [BitVec.getLsbD_and, BitVec.getLsbD_not]; cases x.getLsbD i <;> simp]
    simp
  · congr 2
    apply BitVec.eq_of_getLsbD_eq
    intro i hi
    simp only [BitVec.getLsbD_or, BitVec.getLsbD_and, BitVec.getLsbD_not]
    cases x.getLsbD i <;> cases y.getLsbD i <;> simp [hi]
set_option maxRecDepth 100000 in
set_option maxHeartbeats 8000000 in
theorem walk (a : Int) (wa : (Lit.int .u8 a).wf = true) (v : Int) (wv : (Lit.int .u8 v).wf = true) (p : Int) (wp : (Lit.int .u8 p).wf = true) (W : World) :
    Calls Try.prog 10 #[.int .u8 a, .int .u8 v, .int .u8 p] W fun e w' => e = .returned (.bool true) ∧ Below W.heap.size W w' := by
  obtain ⟨a0, a1⟩ := bounds_u8 wa
  obtain ⟨v0, v1⟩ := bounds_u8 wv
  obtain ⟨p0, p1⟩ := bounds_u8 wp
  have A1 := fun w => lrol_any v p w
  obtain ⟨u1, u2⟩ := undo_v v (flI p 1) v0 v1
  have F1 := (flg_dec' p (slV v (flI p 1)) (bitB v 7) p0 p1)
  obtain ⟨q, hq⟩ : ∃ q, lgR (flS p 1 (bitB v 7)) (slV v (flI p 1)) = q := ⟨_, rfl⟩
  have q0 : 0 ≤ q ∧ q ≤ 255 := by rw [← hq]; exact flS_bd _ _ _
  rw [hq] at A1 F1
  have A2 := fun w => lror_any (slV v (flI p 1)) q w
  rw [F1, u1, u2] at A2
  have F2 := (flg_dec' q v (flI p 1) q0.1 q0.2)
  obtain ⟨s, hs⟩ : ∃ s, lgR (flS q 1 (flI p 1)) v = s := ⟨_, rfl⟩
  have s0 : 0 ≤ s ∧ s ≤ 255 := by rw [← hs]; exact flS_bd _ _ _
  rw [hs] at A2 F2
  have I1 := fun w => risC_any s w s0.1 s0.2
  rw [F2] at I1
  have I2 := fun w => risC_any p w p0 p1
  have A3 := fun w => linc_any v p w
  have A4 := fun w => ldec_any ((v + 1) % 256) (lgR p ((v + 1) % 256)) w
  rw [show ((v + 1) % 256 - 1) % 256 = v by omega] at A4
  have A5 := fun w => ltsb_any a v p w
  obtain ⟨t1, t2⟩ := trb_v a v a0 a1 v0 v1
  have A6 := fun w => ltrb_any a (bits .or .u8 v a) (ltS a v p) w
  have A7 := fun w => land_any (bits .andNot .u8 (bits .or .u8 v a) a) a (ltS a (bits .or .u8 v a) (ltS a v p)) w
  have A8 := fun w => lor_any (bits .andNot .u8 (bits .or .u8 v a) a) a (ltS a (bits .or .u8 v a) (ltS a v p)) w
  rw [t1] at A7
  rw [t2] at A8
  generalize flI p 1 = c at *
  have H1 := Lib.hid A1
  have H2 := Lib.hid A2
  have H3 := Lib.hid A3
  have H4 := Lib.hid A4
  have H5 := Lib.hid A5
  have H6 := Lib.hid A6
  have H7 := Lib.hid A7
  have H8 := Lib.hid A8
  have J1 := Lib.hid I1
  have J2 := Lib.hid I2
  have nc : (c == c) = true := by simp
  clear A1 A2 A3 A4 A5 A6 A7 A8 I1 I2 F1 F2 u1 u2 hq hs t1 t2 wa wv wp
  go_enter Try.func10, Try.ntmps10
  go_wp2_with fail
  refine (live22 _).mono ?_
  rintro e w0 ⟨rfl, b0⟩
  have HB := Lib.hid b0
  clear b0
  go_wp2_with fail
  refine (H1.out _).mono ?_
  rintro e w1 ⟨rfl, b⟩
  replace HB := Lib.hid (HB.out.trans (b.mono HB.out.size))
  clear b
  go_wp2_with fail
  refine (H2.out _).mono ?_
  rintro e w2 ⟨rfl, b⟩
  replace HB := Lib.hid (HB.out.trans (b.mono HB.out.size))
  clear b
  go_wp2_with fail
  refine (H3.out _).mono ?_
  rintro e w' ⟨rfl, rfl⟩
  go_wp2_with fail
  refine (H4.out _).mono ?_
  rintro e w' ⟨rfl, rfl⟩
  go_wp2_with fail
  refine (H5.out _).mono ?_
  rintro e w' ⟨rfl, rfl⟩
  go_wp2_with fail
  refine (H6.out _).mono ?_
  rintro e w' ⟨rfl, rfl⟩
  go_wp2_with fail
  refine (H7.out _).mono ?_
  rintro e w' ⟨rfl, rfl⟩
  go_wp2_with fail
  refine (H8.out _).mono ?_
  rintro e w' ⟨rfl, rfl⟩
  go_wp2_with fail
  refine (J1.out _).mono ?_
  rintro e w' ⟨rfl, rfl⟩
  go_wp2_with fail
  refine (J2.out _).mono ?_
  rintro e w' ⟨rfl, rfl⟩
  go_wp2_with fail
  go_ret
  exact ⟨rfl, HB.out⟩

theorem own : ownKnob Try.prog.godebug = none := by kernel_rfl
theorem laidOut : laidOutB Try.prog = true := by kernel_rfl
set_option maxRecDepth 100000 in
theorem lifted (os : Os) (started : os.Started) (H : Type) (enc : TypeId × Value → H) :
    ReturnsInHanded {} Try.checked os 10 .any (Rows.logicUndoesSpec.pre6 enc Try.prog Try.f10 Rows.logicUndoesRow.domain false) (Rows.logicUndoesSpec.post enc Try.prog Try.f10 false true false false) := by
  refine returnsInHanded_of_change (C := Try.checked) own started (by kernel_rfl) Try.func10
    (ChangeSpec.witness6 (enc := enc) (C := Try.checked) false ⟨#[], #[.int .u8 0, .int .u8 0, .int .u8 0], []⟩ 8 (by kernel_rfl) (by kernel_rfl) (by kernel_rfl) (by kernel_rfl)) ?_
  intro W base args ds gs before hval0 hW _ _
  have hval : ∀ (j : Nat) t v, Try.f10.params[j]? = some t → args[j]? = some v → Value.okWide Try.prog W .any base t v := hval0
  have hW' := hW
  obtain ⟨p, q, hA0, hV, rfl, _, _⟩ := hW
  have hA : DataW.TrodAll enc Try.prog W 0 (fun _ => true) true Try.f10.params.toList args.toList ds p := hA0
  rw [Try.params10] at hA hval
  obtain ⟨v0, vs0, d0, ds0, p0, q0, hargs, rfl, rfl, h0, r0⟩ := trodAll_cons hA
  obtain ⟨v1, vs1, d1, ds1, p1, q1, rfl, rfl, rfl, h1, r1⟩ := trodAll_cons r0
  obtain ⟨v2, vs2, d2, ds2, p2, q2, rfl, rfl, rfl, h2, r2⟩ := trodAll_cons r1
  obtain ⟨rfl, rfl, rfl⟩ := trodAll_nil r2
  obtain rfl : args = #[v0, v1, v2] := by cases args; simp_all
  obtain ⟨rfl, rfl⟩ := trodVars_none hV
  obtain ⟨a0, rfl, rfl, rfl, w0⟩ := open_int Try.underlying5 (hval 0 5 v0 rfl rfl) h0
  obtain ⟨a1, rfl, rfl, rfl, w1⟩ := open_int Try.underlying5 (hval 1 5 v1 rfl rfl) h1
  obtain ⟨a2, rfl, rfl, rfl, w2⟩ := open_int Try.underlying5 (hval 2 5 v2 rfl rfl) h2
  clear hA0 hval0
  refine (walk a0 w0 a1 w1 a2 w2 W).mono fun e W' ⟨he, hg⟩ => ?_
  subst he
  exact ⟨_, rfl, law_post rfl Try.underlying4 laidOut (by kernel_rfl) rfl hW' rfl hg⟩

theorem over : Rows.logicUndoesRow.holds Try.pinned (OpenSpec.ofChange Rows.logicUndoesSpec) :=
  OpenClaim.holds_of_wide 10 Try.f10 rfl rfl rfl rfl rfl rfl rfl ⟨rfl, rfl, rfl, rfl, rfl⟩ rfl rfl rfl rfl rfl (by kernel_rfl) Try.func10 (by kernel_rfl)
    (of_decide_eq_true (by kernel_rfl)) (by unfold Func.isWrapper; first | (rw [if_pos (by decide +kernel)]; kernel_rfl) | (rw [if_neg (by decide +kernel)]; exact ⟨rfl, rfl⟩))
    (fun os started H enc _ => lifted os started H enc)

theorem proved : Rows.LogicUndoesSaid := over
#print axioms proved
end Go.Proofs.Ytkmcfmflihkdjaa.logicUndoes
