/-
  Pages: the answer's Seen; what is seen, as a row of numbers.
-/
import Derived.Test.YtccimkmlbcgekaaDoorMmu8
import Derived.Test.YtccimkmlbcgekaaDoorG27
import Derived.Deep.Cut
import Derived.Deep.CutRange
import Derived.Deep.CutBlock
namespace Go.Proofs.YtccimkmlbcgekaaDoor
open Go.RowKit Go.Shelf
set_option linter.unusedVariables false
set_option linter.unusedSimpArgs false
set_option maxRecDepth 100000
/-- The lowest k pages. -/
def flL (k : Nat) : List (Fin 8) := (List.finRange 8).take k
theorem flL_all : flL 8 = [0, 1, 2, 3, 4, 5, 6, 7] := by decide
theorem flL_snoc : ∀ k : Fin 8, flL (k.val + 1) = flL k.val ++ [k] := by decide
theorem flL_le : ∀ k : Fin 9, (flL k.val).length ≤ 8 := by decide
theorem info16 : (Tryd.prog.info? 35).map (fun i => (i.zero, i.size, i.bytes)) = some (some (.int .u16 0), 1, 2) := by kernel_rfl
theorem seL_len (z : Nat → Int) (a : Int) (l : List (Fin 8)) : (seL z a l).length ≤ l.length := by
  unfold seL
  rw [List.length_map]
  exact List.length_filter_le _ _
set_option maxHeartbeats 2000000 in
theorem rseen_any {w : World} {g : Nat} {z : Nat → Int} {l : Int} (h : RM w g z l) (hz : ∀ i, i < 8 → 0 ≤ z i ∧ z i ≤ 255) (a : Int) (a0 : 0 ≤ a) (a1 : a ≤ 4294967295) :
    Calls Tryd.prog 15 #[.pointer (some ⟨g, 0, none⟩), .int .u32 a] w fun e w' => ∃ v, e = .returned v ∧ w'.ownsRow w.heap.size 35 1 v (seL z a [0, 1, 2, 3, 4, 5, 6, 7]).length (seL z a [0, 1, 2, 3, 4, 5, 6, 7]) ∧ Below w.heap.size w w' := by
  have H0 := Lib.hid h
  have hgl := h.lt_
  have HZ := Lib.hid hz
  clear h hz
  obtain ⟨b, hb⟩ : ∃ b, bankI a = b := ⟨_, rfl⟩
  obtain ⟨o, ho⟩ : ∃ o, offI a = o := ⟨_, rfl⟩
  obtain ⟨c, hc⟩ : ∃ c, a % 2097152 = c := ⟨_, rfl⟩
  have hb' : c / 8192 = b := by rw [← hc, ← hb]; rfl
  have ho' : c % 8192 = o := by rw [← hc, ← ho]; unfold offI; omega
  have cb : 0 ≤ c ∧ c < 2097152 := by omega
  have ct : a.tmod 2097152 = c := by rw [Int.tmod_eq_emod_of_nonneg a0, hc]
  have HB := Lib.hid hb
  have HO := Lib.hid ho
  have HC := Lib.hid hc
  clear hb ho hc
  go_enter Tryd.func15, Tryd.ntmps15
  go_wp2_with fail
  try rw [HC.out]
  go_loopw [5, 6] (fun v i wr => ∃ k : Nat, k ≤ 8 ∧ i = .int .i64 k ∧ wr.ownsRow w.heap.size 35 1 v (seL z a (flL k)).length (seL z a (flL k)) ∧ RM wr g z l ∧ Below w.heap.size w wr) (fun _ i _ => 8 - (intOf i).toNat)
  case atStart => exact ⟨0, by omega, rfl, World.ownsRow_nil _ _ _ _, H0.out, Below.refl _ w⟩
  case round =>
    obtain ⟨k, hk, rfl, own, hR, hB⟩ := hrel
    have hS := hB.size
    by_cases hlt : k < 8
    · have i0 : (k : Int) < 8 := by omega
      have i1 : (0 : Int) ≤ (k : Int) := by omega
      have c0 := RM.at_ hR k hlt
      obtain ⟨z0, z1⟩ := HZ.out k hlt
      obtain ⟨t, ht⟩ : ∃ t, z k = t := ⟨_, rfl⟩
      have hlen : (seL z a (flL k)).length ≤ 8 := Nat.le_trans (seL_len z a _) (flL_le ⟨k, by omega⟩)
      rw [ht] at c0 z0 z1
      have HT := Lib.hid ht
      have HR := Lib.hid hR
      have hq1 : c.tdiv 8192 = b := by rw [Int.tdiv_eq_ediv_of_nonneg cb.1]; exact hb'
      have hq2 : c.tmod 8192 = o := by rw [Int.tmod_eq_emod_of_nonneg cb.1]; exact ho'
      have bb : 0 ≤ b ∧ b ≤ 255 := by omega
      have oo : 0 ≤ o ∧ o < 8192 := by omega
      have w1 : IntKind.u32.wrap t = t := IntWalk.u32_in _ (by omega)
      by_cases e : t = b
      · have he : (t == b) = true := by simpa using e
        have hyes : (z (⟨k, hlt⟩ : Fin 8).val == bankI a) = true := by rw [HB.out]; show (z k == b) = true; rw [HT.out]; exact he
        have hl2 := seL_yes z a (flL k) ⟨k, hlt⟩ hyes
        rw [← flL_snoc ⟨k, hlt⟩] at hl2
        obtain ⟨v', w', hrun, own', gb⟩ := more_new (P := Tryd.prog) (t := 37) (e := 35) (ty := 37) (c := 1) (m := 1) Tryd.underlying37 info16 rfl (by decide) own #[.int .u16 ((k : Int) * 8192 + o)] rfl (fun u hu => by simp at hu; subst hu; rfl) rfl (by omega) (by omega) hS
        have hP' : RM w' g z l := Blk.grown (Blk.alloc HR.out _) gb (fun h => by have := (own.lt g h.symm).1; omega)
        have hB' : Below w.heap.size w w' := (hB.alloc hS (.cells #[.int .u16 ((k : Int) * 8192 + o)] 35)).grown gb (by simp; omega) (fun j h => (own.lt j h).1)
        have OWN := Lib.hid own'
        have HP' := Lib.hid hP'
        have HB' := Lib.hid hB'
        have hl3 : seL z a (flL (k + 1)) = seL z a (flL k) ++ [.int .u16 ((k : Int) * 8192 + offI a)] := hl2
        have HL2 := Lib.hid hl3
        subst e
        have w2 : IntKind.u16.wrap (k : Int) = (k : Int) := IntWalk.u16_in _ (by omega)
        have w3 : IntKind.u16.wrap ((k : Int) * 8192) = (k : Int) * 8192 := IntWalk.u16_in _ (by omega)
        have w4 : IntKind.u16.wrap o = o := IntWalk.u16_in _ (by omega)
        have w5 : IntKind.u16.wrap ((k : Int) * 8192 + o) = (k : Int) * 8192 + o := IntWalk.u16_in _ (by omega)
        clear own hB hR hl2 hl3 own' gb hP' hB' hyes hlen hb' ho' hlt hk
        go_wp2_with (at_builtin; refine wpList_append_run rfl (.tmp 23) (.tmp 31) 37 rfl rfl rfl hrun ?_)
        go_roundw
        case rel => exact ⟨k + 1, by omega, by go_num, by rw [HL2.out, List.length_append, HO.out]; exact OWN.out, HP'.out, HB'.out⟩
        case measure => simp [intOf]; omega
      · have he : (t == b) = false := by simpa using e
        have hno : (z (⟨k, hlt⟩ : Fin 8).val == bankI a) = false := by rw [HB.out]; show (z k == b) = false; rw [HT.out]; exact he
        have hl2 := seL_no z a (flL k) ⟨k, hlt⟩ hno
        rw [← flL_snoc ⟨k, hlt⟩] at hl2
        have hl3 : seL z a (flL (k + 1)) = seL z a (flL k) := hl2
        have HL2 := Lib.hid hl3
        have OWN := Lib.hid own
        have HBr := Lib.hid hB
        clear own hB hR hl2 hl3 hno hlen hb' ho' hlt hk e
        go_wp2_with fail
        go_roundw
        case rel => exact ⟨k + 1, by omega, by go_num, by rw [HL2.out]; exact OWN.out, HR.out, HBr.out⟩
        case measure => simp [intOf]; omega
    · obtain rfl : k = 8 := by omega
      have i0 : ¬ ((8 : Nat) : Int) < 8 := by omega
      rw [flL_all] at own
      have OWN := Lib.hid own
      have HBr := Lib.hid hB
      clear own hB hR
      go_wp2_with fail
      go_ret
      exact ⟨_, rfl, OWN.out, HBr.out⟩
/-- What is seen, as numbers. -/
def seN (z : Nat → Int) (a : Int) : List Int := (([0, 1, 2, 3, 4, 5, 6, 7] : List (Fin 8)).filter fun x => z x.val == bankI a).map fun x => (x.val : Int) * 8192 + offI a
def seZ (z : Nat → Int) (a : Int) (i : Nat) : Int := (seN z a).getD i 0
theorem seL_ints (z : Nat → Int) (a : Int) : seL z a [0, 1, 2, 3, 4, 5, 6, 7] = intsOf .u16 (seZ z a) (seN z a).length := by
  apply List.ext_getElem?
  intro i
  have e : seL z a [0, 1, 2, 3, 4, 5, 6, 7] = (seN z a).map (Value.int .u16) := by unfold seL seN; rw [List.map_map]; rfl
  rw [e]
  by_cases hi : i < (seN z a).length
  · rw [intsOf_at _ _ _ _ hi, List.getElem?_map, List.getElem?_eq_getElem hi]
    unfold seZ
    rw [List.getD_eq_getElem?_getD, List.getElem?_eq_getElem hi]
    rfl
  · rw [List.getElem?_eq_none (by simpa using hi), List.getElem?_eq_none (by rw [intsOf_len]; omega)]
theorem seN_len (z : Nat → Int) (a : Int) : (seL z a [0, 1, 2, 3, 4, 5, 6, 7]).length = (seN z a).length := by rw [seL_ints, intsOf_len]
theorem seN_le (z : Nat → Int) (a : Int) : (seN z a).length ≤ 8 := by rw [← seN_len]; exact seL_len z a _
theorem seZ_spec (z : Nat → Int) (a : Int) (a0 : 0 ≤ a) (i : Nat) (hi : i < (seN z a).length) : 0 ≤ seZ z a i ∧ seZ z a i ≤ 65535 ∧ phI z (seZ z a i) = a % 2097152 := by
  have hm : seZ z a i ∈ seN z a := by
    unfold seZ
    rw [List.getD_eq_getElem?_getD, List.getElem?_eq_getElem hi]
    exact List.getElem_mem hi
  unfold seN at hm
  rw [List.mem_map] at hm
  obtain ⟨x, hx, he⟩ := hm
  rw [List.mem_filter] at hx
  have hb : z x.val = bankI a := by simpa using hx.2
  have := x.isLt
  have o : 0 ≤ offI a ∧ offI a < 8192 := by unfold offI; omega
  rw [← he]
  refine ⟨by omega, by omega, ?_⟩
  unfold phI
  rw [show ((x.val : Int) * 8192 + offI a).toNat / 8192 = x.val by omega, hb]
  unfold bankI offI at *
  omega
theorem seZ_wf (z : Nat → Int) (a : Int) (a0 : 0 ≤ a) (i : Nat) (hi : i < (seN z a).length) : (Lit.int .u16 (seZ z a i)).wf = true := by
  obtain ⟨h0, h1, _⟩ := seZ_spec z a a0 i hi
  exact WalkArith.wf_u16 (by omega)
end Go.Proofs.YtccimkmlbcgekaaDoor
