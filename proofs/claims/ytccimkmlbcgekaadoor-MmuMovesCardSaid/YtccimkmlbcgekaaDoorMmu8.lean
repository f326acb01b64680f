/-
  Pages: what must be whatever is asked.
-/
import Derived.Test.YtccimkmlbcgekaaDoorMmu7
namespace Go.Proofs.YtccimkmlbcgekaaDoor
open Go.RowKit
set_option linter.unusedVariables false
set_option linter.unusedSimpArgs false
set_option maxRecDepth 100000
theorem wthL_all : wthL (fun i => bitB 255 (i : Int)) 8 = [0, 1, 2, 3, 4, 5, 6, 7] := by decide +kernel
theorem mseen_any {w : World} {g : Nat} {z : Nat → Int} {l : Int} (h : MM w g z l) (hz : ∀ i, i < 8 → 0 ≤ z i ∧ z i ≤ 255) (a : Int) (a0 : 0 ≤ a) (a1 : a ≤ 4294967295) :
    Calls Tryd.prog 14 #[.pointer (some ⟨g, 0, none⟩), .int .u32 a] w fun e w' => ∃ v, e = .returned v ∧ w'.ownsRow w.heap.size 35 1 v (seL z a [0, 1, 2, 3, 4, 5, 6, 7]).length (seL z a [0, 1, 2, 3, 4, 5, 6, 7]) ∧ Below w.heap.size w w' := by
  have := mseen_of (w := w) (p := some ⟨g, 0, none⟩) (fun W hb => banks_any (h.below hb h.lt_)) hz a a0 a1
  rwa [wthL_all] at this
theorem mseen_nil (w : World) : Calls Tryd.prog 14 #[.pointer none, .int .u32 0] w fun e w' => ∃ g c, e = .returned (.slice (some ⟨g, 0, none⟩) 8 c) ∧ Below w.heap.size w w' := by
  have := mseen_of (w := w) (p := none) (z := fun _ => 0) (fun W hb => banks_nil W) (by intro i _; omega) 0 (by omega) (by omega)
  rw [wthL_all] at this
  refine this.mono ?_
  rintro e w' ⟨v, rfl, ho, hb⟩
  obtain ⟨g, c, rfl⟩ := ownsRow_succ (k := 7) (show w'.ownsRow w.heap.size 35 1 v (7 + 1) _ from ho)
  exact ⟨g, c, rfl, hb⟩
def zl (i : Nat) : Int := if i = 1 then 248 else 0
theorem zl_ok : ∀ i, i < 8 → 0 ≤ zl i ∧ zl i ≤ 255 := by intro i _; unfold zl; split <;> omega
theorem zl_mvd : p8 (mvd zl 130 7) = #[.int .u8 0, .int .u8 7, .int .u8 0, .int .u8 0, .int .u8 0, .int .u8 0, .int .u8 0, .int .u8 7] := by
  unfold p8
  rw [show mvd zl 130 7 0 = 0 by decide +kernel, show mvd zl 130 7 1 = 7 by decide +kernel, show mvd zl 130 7 2 = 0 by decide +kernel, show mvd zl 130 7 3 = 0 by decide +kernel, show mvd zl 130 7 4 = 0 by decide +kernel, show mvd zl 130 7 5 = 0 by decide +kernel, show mvd zl 130 7 6 = 0 by decide +kernel, show mvd zl 130 7 7 = 7 by decide +kernel]
def bankEq (f g : Nat → Int) : Prop := ∀ W : World, (Op.equalIn 10000 22 (.agg (p8 f)) (.agg (p8 g))).run Tryd.prog W = .ok ((List.range 8).all fun i => f i == g i) W
theorem bank_eq (f g : Nat → Int) : bankEq f g := fun W => run_eql_ints (n := 8) Tryd.underlying22 Tryd.underlying5 (by kernel_rfl) (by kernel_rfl) 9998 f g W
theorem bank_lit : ∀ W : World, (Op.equalIn 10000 22 (.agg #[.int .u8 0, .int .u8 7, .int .u8 0, .int .u8 0, .int .u8 0, .int .u8 0, .int .u8 0, .int .u8 7]) (.agg #[.int .u8 0, .int .u8 7, .int .u8 0, .int .u8 0, .int .u8 0, .int .u8 0, .int .u8 0, .int .u8 7])).run Tryd.prog W = .ok true W := fun W => by
  have := bank_eq (fun i => if i = 1 then 7 else if i = 7 then 7 else 0) (fun i => if i = 1 then 7 else if i = 7 then 7 else 0) W
  exact this
theorem bank_zero : ∀ W : World, (Op.equalIn 10000 22 (.agg #[.int .u8 0, .int .u8 0, .int .u8 0, .int .u8 0, .int .u8 0, .int .u8 0, .int .u8 0, .int .u8 0]) (.agg #[.int .u8 0, .int .u8 0, .int .u8 0, .int .u8 0, .int .u8 0, .int .u8 0, .int .u8 0, .int .u8 0])).run Tryd.prog W = .ok true W := fun W => by
  have := bank_eq (fun _ => 0) (fun _ => 0) W
  exact this
set_option maxHeartbeats 4000000 in
theorem live18 {w : World} (hT : Tab16 w 1 3 prt) : Calls Tryd.prog 8 #[] w fun e w' => e = .returned (.bool true) ∧ Below w.heap.size w w' := by
  have HT := Lib.hid hT
  have q1 := bank_lit
  have q2 := bank_zero
  clear hT
  go_enter Tryd.func8, Tryd.ntmps8
  go_wp2_with fail
  refine (mof_any zl 3 _).mono ?_
  rintro e w1 ⟨g, rfl, hg, hm, hB⟩
  have HM := Lib.hid hm
  have HB := Lib.hid hB
  clear hm hB
  go_wp2_with fail
  refine (mnew_any _).mono ?_
  rintro e w2 ⟨g2, rfl, -, -, hB⟩
  have HM := Lib.hid (HM.out.below hB HM.out.lt_)
  have HB := Lib.hid (HB.out.trans (hB.mono HB.out.size))
  clear hB
  go_wp2_with fail
  refine (mphys_of (banks_any HM.out) zl_ok 8197 (by omega) (by omega)).mono ?_
  rw [show phI zl 8197 = 2031621 by decide +kernel]
  rintro e w3 ⟨rfl, hB⟩
  have HM := Lib.hid (HM.out.below hB HM.out.lt_)
  have HB := Lib.hid (HB.out.trans (hB.mono HB.out.size))
  clear hB
  go_wp2_with fail
  refine (mget_any HM.out 0).mono ?_
  rw [show getI zl 3 0 = 3 by decide +kernel]
  rintro e w4 ⟨rfl, hm, hK⟩
  have HM := Lib.hid hm
  have HB := Lib.hid (Kp.onto HB.out hK HB.out.size (by simpa using hg))
  clear hm hK
  go_wp2_with fail
  refine (mset_any HM.out 130 7).mono ?_
  rintro e w5 ⟨rfl, hm, hK⟩
  have HM := Lib.hid hm
  have HB := Lib.hid (Kp.onto HB.out hK HB.out.size (by simpa using hg))
  clear hm hK
  go_wp2_with fail
  refine (mget_any HM.out 0).mono ?_
  rw [show getI (mvd zl 130 7) 7 0 = 7 by decide +kernel]
  rintro e w6 ⟨rfl, hm, hK⟩
  have HM := Lib.hid hm
  have HB := Lib.hid (Kp.onto HB.out hK HB.out.size (by simpa using hg))
  clear hm hK
  go_wp2_with fail
  refine (mset_nil 1 1 _).mono ?_
  rintro e w7 ⟨rfl, rfl⟩
  go_wp2_with fail
  refine (mreset_nil _).mono ?_
  rintro e w8 ⟨rfl, rfl⟩
  go_wp2_with fail
  refine (mport_any (HT.out.below HB.out) 1 (by omega)).mono ?_
  rw [show 2088960 + prt 1 = 2088962 by decide]
  rintro e w9 ⟨rfl, rfl⟩
  go_wp2_with fail
  refine (banks_any HM.out).mono ?_
  rw [zl_mvd]
  rintro e wa ⟨rfl, hB⟩
  have HM := Lib.hid (HM.out.below hB HM.out.lt_)
  have HB := Lib.hid (HB.out.trans (hB.mono HB.out.size))
  clear hB
  go_wp2_with fail
  refine (last_any HM.out).mono ?_
  rintro e wb ⟨rfl, rfl⟩
  go_wp2_with fail
  refine (mphys_of (z := fun _ => 0) (banks_nil _) (by intro i _; omega) 5 (by omega) (by omega)).mono ?_
  rw [show phI (fun _ => 0) 5 = 5 by decide +kernel]
  rintro e wc ⟨rfl, hB⟩
  have HB := Lib.hid (HB.out.trans (hB.mono HB.out.size))
  clear hB
  go_wp2_with fail
  refine (mget_nil 1 _).mono ?_
  rintro e wd ⟨rfl, hB⟩
  have HB := Lib.hid (HB.out.trans (hB.mono HB.out.size))
  clear hB
  go_wp2_with fail
  refine (mclone_nil _).mono ?_
  rintro e we ⟨rfl, rfl⟩
  go_wp2_with fail
  refine (last_nil _).mono ?_
  rintro e wf ⟨rfl, rfl⟩
  go_wp2_with fail
  refine (mseen_nil _).mono ?_
  rintro e wg ⟨g3, c3, rfl, hB⟩
  have HB := Lib.hid (HB.out.trans (hB.mono HB.out.size))
  clear hB
  go_wp2_with fail
  refine (banks_nil _).mono ?_
  rw [show p8 (fun _ => 0) = #[.int .u8 0, .int .u8 0, .int .u8 0, .int .u8 0, .int .u8 0, .int .u8 0, .int .u8 0, .int .u8 0] from rfl]
  rintro e wh ⟨rfl, hB⟩
  have HB := Lib.hid (HB.out.trans (hB.mono HB.out.size))
  clear hB
  go_wp2_with fail
  refine (mzero_any 5 (by omega) (by omega) _).mono ?_
  rintro e wi ⟨rfl, rfl⟩
  go_wp2_with fail
  refine (mstack_any 255 (by omega) (by omega) _).mono ?_
  rintro e wj ⟨rfl, rfl⟩
  go_wp2_with fail
  go_ret
  exact ⟨rfl, HB.out⟩
end Go.Proofs.YtccimkmlbcgekaaDoor
