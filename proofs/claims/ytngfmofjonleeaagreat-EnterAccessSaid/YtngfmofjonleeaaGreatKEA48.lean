/-
  Texts of these proofs, one behind the other: Ent7, Ent8, Ent9, Ent10, Ent11, Rpl1.
-/
import Derived.Test.YtngfmofjonleeaaGreatKEA40
import Derived.Test.YtngfmofjonleeaaGreatKEA47
import Derived.Test.YtngfmofjonleeaaGreatKEA43
import Derived.Test.YtngfmofjonleeaaGreatKEA10
import Derived.Test.YtngfmofjonleeaaGreatKEA01
import Derived.Laws.MakeOwn
import Derived.Laws.CopyRow
import Derived.Laws.CopyOwn
import Derived.Deep.Cut
import Derived.Test.YtngfmofjonleeaaGreatKEA11
import Derived.Test.YtngfmofjonleeaaGreatKEA03
import Derived.Lib.AppendZeros
import Derived.Maps.AppendAt
import Derived.Test.YtngfmofjonleeaaGreatKEA46
import Derived.Deep.RegionHeld3
namespace Go.Proofs.YtngfmofjonleeaaGreat
open Go.RowKit
set_option linter.unusedVariables false
set_option linter.unusedSimpArgs false
set_option maxRecDepth 100000
set_option maxHeartbeats 8000000
theorem esp_info : (Tryz.prog.info? 46).map (fun i => (i.zero, i.size, i.bytes)) = some (some (.agg #[.int .u8 0, .int .u16 0, .bool false, .int .u8 0]), 4, 6) := by kernel_rfl
def rdSp (kd : Int) (l : List Int) : List Sp := l.map fun a => ⟨kd, a, false, 0⟩
theorem rdSp_snoc (kd : Int) (l : List Int) (a : Int) : rdSp kd (l ++ [a]) = rdSp kd l ++ [⟨kd, a, false, 0⟩] := by simp [rdSp]
theorem ereading_any (kd : Int) (g n c : Nat) (l : List Int) (w : World) (hl : l.length = n) (hn : n ≤ 1000) (hb : Blk w g 22 (l.map (Value.int .u16)).toArray) :
    Calls Tryz.prog 52 #[.int .u8 kd, .slice (some ⟨g, 0, none⟩) n c] w fun e w' => ∃ v, e = .returned v ∧ w'.ownsRow w.heap.size 46 4 v n (spL (rdSp kd l)) ∧ Below w.heap.size w w' := by
  have KB := Lib.hid hb
  have HL := Lib.hid hl
  clear hb hl
  go_enter Tryz.func52, Tryz.ntmps52
  go_wp2
  go_loopw [5, 10] (fun v i wr => ∃ j : Nat, j ≤ n ∧ i = .int .i64 j ∧ wr.ownsRow w.heap.size 46 4 v j (spL (rdSp kd (l.take j))) ∧ Below w.heap.size w wr) (fun _ i _ => n - (intOf i).toNat)
  case atStart => exact ⟨0, by omega, rfl, World.ownsRow_nil _ _ _ _, Below.refl _ w⟩
  case round =>
    obtain ⟨j, hj, rfl, own, hB⟩ := hrel
    have OWN := Lib.hid own
    have HB := Lib.hid hB
    clear own hB
    by_cases hlt : j < n
    · obtain ⟨a, ha⟩ : ∃ a, l[j]? = some a := ⟨l[j]'(by rw [HL.out]; exact hlt), List.getElem?_eq_getElem _⟩
      have hc : wr.cell? ⟨g, j, none⟩ = some (.int .u16 a) := by
        rw [HB.out.cell (p := ⟨g, j, none⟩) KB.out.lt, KB.out.cell j]; simp [ha]
      have htk : spL (rdSp kd (l.take (j + 1))) = spL (rdSp kd (l.take j)) ++ spL [⟨kd, a, false, 0⟩] := by
        rw [List.take_add_one, ha, ← spL_app, ← rdSp_snoc]; rfl
      have HTK := Lib.hid htk
      clear ha htk
      obtain ⟨v', w', hrun, own', gb⟩ := more_sp (P := Tryz.prog) (t := 26) (e := 46) (ty := 26) (c := 1) (m := 1) Tryz.underlying26 esp_info OWN.out [⟨kd, a, false, 0⟩] #[.int .u8 kd, .int .u16 a, .bool false, .int .u8 0] rfl rfl (by omega) HB.out.size
      have HW : Hid (w'.ownsRow w.heap.size 46 4 v' (j + 1) (spL (rdSp kd (l.take (j + 1))))) := Lib.hid (by rw [HTK.out]; exact own')
      have z5 := HB.out.size
      have HB6 := Lib.hid ((HB.out.alloc z5 (.cells #[.int .u8 kd, .int .u16 a, .bool false, .int .u8 0] 46)).grown gb (by simp; omega) (fun i h => (OWN.out.lt i h).1))
      clear own' gb z5
      go_wp2_with (at_builtin; refine wpList_append_run rfl (.tmp 14) (.tmp 18) 26 rfl rfl rfl hrun ?_)
      go_roundw
      case rel => exact ⟨j + 1, by omega, by go_num, HW.out, HB6.out⟩
      case measure => simp [intOf]; omega
    · obtain rfl : j = n := by omega
      have own := OWN.out
      rw [List.take_of_length_le (by rw [HL.out]; exact Nat.le_refl _)] at own
      have OWN2 := Lib.hid own
      clear own
      go_wp2_with fail
      go_ret
      exact ⟨_, rfl, OWN2.out, HB.out⟩
end Go.Proofs.YtngfmofjonleeaaGreat
namespace Go.Proofs.YtngfmofjonleeaaGreat
open Go.RowKit
set_option linter.unusedVariables false
set_option linter.unusedSimpArgs false
set_option maxRecDepth 100000
set_option maxHeartbeats 8000000
/-- A copy whose run is known. -/
theorem wp_copy_any {P : Program} {w w' : World} {o : Oper} {a : Act} {K : Act → World → Prop} {Q : Exit → Act → World → Prop} (s x : Operand) (t t2 : TypeId)
    (ho : o.op = .call { callee := .builtin .copy, args := #[s, x], argTypes := #[t, t2] }) {v u v' : Value} (hs : a.eval s = v) (hx : a.eval x = u)
    (hrun : (Builtin.copy_ #[t, t2] o.type #[v, u]).run P w = .ok v' w') (h : K (a.put o.dst v') w') : Oper.wp P o a w K Q := by
  unfold Oper.wp execOp
  simp only [ho, resolve, invoke, builtin, Sem.run_bind, Sem.run_pure, Result.andThen_ok, List.map_toArray, List.map_cons, List.map_nil, hs, hx, hrun]
  exact h
theorem wpList_copy_run {P : Program} {w w' : World} {ops : Array Oper} {rest : List Oper} {o : Oper} {a : Act} {Q : Exit → Act → World → Prop} (hg : o.guard = none) (s x : Operand) (t t2 : TypeId)
    (ho : o.op = .call { callee := .builtin .copy, args := #[s, x], argTypes := #[t, t2] }) {v u v' : Value} (hs : a.eval s = v) (hx : a.eval x = u)
    (hrun : (Builtin.copy_ #[t, t2] o.type #[v, u]).run P w = .ok v' w') (h : wpList P ops Q rest (a.put o.dst v') w') : wpList P ops Q (o :: rest) a w :=
  wpList_plain hg fun _ hK => wp_copy_any s x t t2 ho hs hx hrun (hK _ _ h)
theorem erepeat_1 (g : Nat) (pc : Int) (w : World) (hb : Blk w g 22 #[.int .u16 pc]) :
    Calls Tryz.prog 85 #[.slice (some ⟨g, 0, none⟩) 1 1, .int .i64 1] w fun e w' => ∃ g2, e = .returned (.slice (some ⟨g2, 0, none⟩) 1 1) ∧ Blk w' g2 22 #[.int .u16 pc] ∧ w.heap.size ≤ g2 ∧ Below w.heap.size w w' := by
  have hmul := fun W => asV ((sh_bits_Mul 1 1 (by omega) (by omega) W).mono fun e w' h => (⟨h.1, h.2.symm⟩ : e = .returned (.tuple #[.int .u64 ((1 * 1 / 18446744073709551616 : Nat) : Int), .int .u64 ((1 * 1 % 18446744073709551616 : Nat) : Int)]) ∧ W = w')) (v' := .tuple #[.int .u64 0, .int .u64 1]) (by rfl)
  have hmk : ∀ W : World, (Instr.makeSlice 181 (.int .i64 1) (.int .i64 1)).run Tryz.prog W = .ok (.slice (some ⟨W.heap.size, 0, none⟩) 1 1) (W.alloc (.cells #[.int .u16 0] 22)) := fun _ => by kernel_rfl
  have hcp := run_copy_row (P := Tryz.prog) (w.alloc (.cells #[.int .u16 0] 22)) 181 181 3 22 w.heap.size 0 1 1 ⟨g, 0, none⟩ 1 1 #[.int .u16 0] 22 [.int .u16 pc] Tryz.underlying181 (by kernel_rfl) (Blk.new w _ _) rfl (fun j v hj => by
    have hj0 : j = 0 := by
      rcases j with _ | j
      · rfl
      · simp at hj
    subst hj0
    simp only [List.getElem?_cons_zero, Option.some.injEq] at hj
    subst hj
    exact (hb.alloc _).cell 0) (by simp) (fun v hv => by simp at hv; subst hv; rfl)
  have K2 : Hid (Blk ((w.alloc (.cells #[.int .u16 0] 22)).setRow w.heap.size #[.int .u16 pc]) w.heap.size 22 #[.int .u16 pc]) := Lib.hid ((Blk.new w _ _).row _)
  have HB2 : Hid (Below w.heap.size w ((w.alloc (.cells #[.int .u16 0] 22)).setRow w.heap.size #[.int .u16 pc])) := Lib.hid (below_setRow ((Below.refl _ w).alloc (Nat.le_refl _) _) (Nat.le_refl _) _)
  obtain ⟨G, hG⟩ : ∃ G, w.heap.size = G := ⟨_, rfl⟩
  obtain ⟨w2, hw2⟩ : ∃ w2, (w.alloc (.cells #[.int .u16 0] 22)).setRow w.heap.size #[.int .u16 pc] = w2 := ⟨_, rfl⟩
  have hcp2 : (Builtin.copy_ #[181, 181] 3 #[.slice (some ⟨w.heap.size, 0, none⟩) 1 1, .slice (some ⟨g, 0, none⟩) 1 1]).run Tryz.prog (w.alloc (.cells #[.int .u16 0] 22)) = .ok (.int .i64 1) w2 := by rw [← hw2]; exact hcp
  rw [hw2] at K2 HB2
  have K3 : Hid (Blk w2 G 22 #[.int .u16 pc]) := Lib.hid (hG ▸ K2.out)
  have hcp3 : (Builtin.copy_ #[181, 181] 3 #[.slice (some ⟨G, 0, none⟩) 1 1, .slice (some ⟨g, 0, none⟩) 1 1]).run Tryz.prog (w.alloc (.cells #[.int .u16 0] 22)) = .ok (.int .i64 1) w2 := hG ▸ hcp2
  have HG := Lib.hid hG
  clear hcp hcp2 hw2 K2 hb
  go_enter Tryz.func85, Tryz.ntmps85
  go_wp2_with (first
    | (go_at_call 112; refine (hmul _).mono ?_; rintro e w' ⟨rfl, rfl⟩)
    | (refine wpList_copy_run rfl (.tmp 31) (.tmp 32) 181 181 rfl rfl rfl hcp3 ?_))
  clear hcp3 hmk hmul hG
  go_loop [8] (fun i => i = .int .i64 1) (fun _ => 0)
  case atStart => rfl
  case round =>
    obtain rfl := hrel
    go_wp2_with fail
    go_ret
    exact ⟨_, rfl, K3.out, by rw [HG.out]; exact Nat.le_refl _, HB2.out⟩
theorem erepeat_2 (g : Nat) (pc : Int) (w : World) (hb : Blk w g 22 #[.int .u16 pc]) :
    Calls Tryz.prog 85 #[.slice (some ⟨g, 0, none⟩) 1 1, .int .i64 2] w fun e w' => ∃ g2, e = .returned (.slice (some ⟨g2, 0, none⟩) 2 2) ∧ Blk w' g2 22 #[.int .u16 pc, .int .u16 pc] ∧ w.heap.size ≤ g2 ∧ Below w.heap.size w w' := by
  have hmul := fun W => asV ((sh_bits_Mul 1 2 (by omega) (by omega) W).mono fun e w' h => (⟨h.1, h.2.symm⟩ : e = .returned (.tuple #[.int .u64 ((1 * 2 / 18446744073709551616 : Nat) : Int), .int .u64 ((1 * 2 % 18446744073709551616 : Nat) : Int)]) ∧ W = w')) (v' := .tuple #[.int .u64 0, .int .u64 2]) (by rfl)
  have hmk : ∀ W : World, (Instr.makeSlice 181 (.int .i64 2) (.int .i64 2)).run Tryz.prog W = .ok (.slice (some ⟨W.heap.size, 0, none⟩) 2 2) (W.alloc (.cells #[.int .u16 0, .int .u16 0] 22)) := fun _ => by kernel_rfl
  have hcp := run_copy_row (P := Tryz.prog) (w.alloc (.cells #[.int .u16 0, .int .u16 0] 22)) 181 181 3 22 w.heap.size 0 2 2 ⟨g, 0, none⟩ 1 1 #[.int .u16 0, .int .u16 0] 22 [.int .u16 pc] Tryz.underlying181 (by kernel_rfl) (Blk.new w _ _) rfl (fun j v hj => by
    have hj0 : j = 0 := by
      rcases j with _ | j
      · rfl
      · simp at hj
    subst hj0
    simp only [List.getElem?_cons_zero, Option.some.injEq] at hj
    subst hj
    exact (hb.alloc _).cell 0) (by simp) (fun v hv => by simp at hv; subst hv; rfl)
  have K2 : Hid (Blk ((w.alloc (.cells #[.int .u16 0, .int .u16 0] 22)).setRow w.heap.size #[.int .u16 pc, .int .u16 0]) w.heap.size 22 #[.int .u16 pc, .int .u16 0]) := Lib.hid ((Blk.new w _ _).row _)
  have HB2 : Hid (Below w.heap.size w ((w.alloc (.cells #[.int .u16 0, .int .u16 0] 22)).setRow w.heap.size #[.int .u16 pc, .int .u16 0])) := Lib.hid (below_setRow ((Below.refl _ w).alloc (Nat.le_refl _) _) (Nat.le_refl _) _)
  obtain ⟨G, hG⟩ : ∃ G, w.heap.size = G := ⟨_, rfl⟩
  obtain ⟨w2, hw2⟩ : ∃ w2, (w.alloc (.cells #[.int .u16 0, .int .u16 0] 22)).setRow w.heap.size #[.int .u16 pc, .int .u16 0] = w2 := ⟨_, rfl⟩
  have hcp2 : (Builtin.copy_ #[181, 181] 3 #[.slice (some ⟨w.heap.size, 0, none⟩) 2 2, .slice (some ⟨g, 0, none⟩) 1 1]).run Tryz.prog (w.alloc (.cells #[.int .u16 0, .int .u16 0] 22)) = .ok (.int .i64 1) w2 := by rw [← hw2]; exact hcp
  rw [hw2] at K2 HB2
  have K3 : Hid (Blk w2 G 22 #[.int .u16 pc, .int .u16 0]) := Lib.hid (hG ▸ K2.out)
  have hcp3 : (Builtin.copy_ #[181, 181] 3 #[.slice (some ⟨G, 0, none⟩) 2 2, .slice (some ⟨g, 0, none⟩) 1 1]).run Tryz.prog (w.alloc (.cells #[.int .u16 0, .int .u16 0] 22)) = .ok (.int .i64 1) w2 := hG ▸ hcp2
  have HG := Lib.hid hG
  clear hcp hcp2 hw2 K2 hb
  go_enter Tryz.func85, Tryz.ntmps85
  go_wp2_with (first
    | (go_at_call 112; refine (hmul _).mono ?_; rintro e w' ⟨rfl, rfl⟩)
    | (refine wpList_copy_run rfl (.tmp 31) (.tmp 32) 181 181 rfl rfl rfl hcp3 ?_))
  clear hcp3 hmk hmul hG
  go_loopw [8] (fun i wr => (i = .int .i64 1 ∧ wr = w2) ∨ (i = .int .i64 2 ∧ Blk wr G 22 #[.int .u16 pc, .int .u16 pc] ∧ Below w.heap.size w wr)) (fun i _ => 3 - (intOf i).toNat)
  case atStart => exact .inl ⟨rfl, rfl⟩
  case round =>
    rcases hrel with ⟨rfl, rfl⟩ | ⟨rfl, hk, hb⟩
    · have z2 : w.heap.size ≤ G := by rw [HG.out]; exact Nat.le_refl _
      have K4 := Lib.hid K3.out.drew_
      have HB4 := Lib.hid HB2.out.drew
      have hcp := run_copy_row (P := Tryz.prog) wr.drew 181 181 3 22 G 1 1 1 ⟨G, 0, none⟩ 1 2 #[.int .u16 pc, .int .u16 0] 22 [.int .u16 pc] Tryz.underlying181 (by kernel_rfl) K4.out rfl (fun j v hj => by
        have hj0 : j = 0 := by
          rcases j with _ | j
          · rfl
          · simp at hj
        subst hj0
        simp only [List.getElem?_cons_zero, Option.some.injEq] at hj
        subst hj
        exact K4.out.cell 0) (by simp) (fun v hv => by simp at hv; subst hv; rfl)
      have K5 : Hid (Blk (wr.drew.setRow G #[.int .u16 pc, .int .u16 pc]) G 22 #[.int .u16 pc, .int .u16 pc]) := Lib.hid (K4.out.row _)
      have HB5 : Hid (Below w.heap.size w (wr.drew.setRow G #[.int .u16 pc, .int .u16 pc])) := Lib.hid (below_setRow HB4.out z2 _)
      have hcp2 : (Builtin.copy_ #[181, 181] 3 #[.slice (some ⟨G, 1, none⟩) 1 1, .slice (some ⟨G, 0, none⟩) 1 2]).run Tryz.prog wr.drew = .ok (.int .i64 1) (wr.drew.setRow G #[.int .u16 pc, .int .u16 pc]) := hcp
      obtain ⟨w6, hw6⟩ : ∃ w6, wr.drew.setRow G #[.int .u16 pc, .int .u16 pc] = w6 := ⟨_, rfl⟩
      rw [hw6] at K5 HB5 hcp2
      have c0 : wr.drew.cell? ⟨G, 0, none⟩ = some (.int .u16 pc) := K4.out.cell 0
      have c6 : w6.cell? ⟨G, 0, none⟩ = some (.int .u16 pc) := K5.out.cell 0
      clear hcp hw6 z2
      go_upto_region 9 with fail
      refine rg_begin (S := fun w' => w'.cell? ⟨G, 0, none⟩ = some (.int .u16 pc)) 10 #[false, false, false, false, false, false, false, false, false, false] (by kernel_rfl) (by kernel_rfl) (by kernel_rfl) ?_ (fun hHeld => ?_)
      · exact c0
      refine rg_take (i := 0) (d := some 38) (l := #[true, false, false, false, false, false, false, false, false, false]) (fuel := 9) (v := ?_) rfl (by kernel_rfl) (by kernel_rfl) (by kernel_rfl) (by kernel_rfl) (by kernel_rfl) (fun _ _ _ h => h) (by kernel_rfl) ?_ (by assumption) ?_
      rotate_left 1
      · (intro wS hSw; (try dsimp only at hSw); go_simp; try with_reducible rfl)
      try simp only [Act.put, List.setIfInBounds_toArray, List.set_cons_zero, List.set_cons_succ]
      refine rg_take (i := 1) (d := some 39) (l := #[true, true, false, false, false, false, false, false, false, false]) (fuel := 8) (v := ?_) rfl (by kernel_rfl) (by kernel_rfl) (by kernel_rfl) (by kernel_rfl) (by kernel_rfl) (fun _ _ _ h => h) (by kernel_rfl) ?_ (by assumption) ?_
      rotate_left 1
      · (intro wS hSw; (try dsimp only at hSw); go_simp; try with_reducible rfl)
      try simp only [Act.put, List.setIfInBounds_toArray, List.set_cons_zero, List.set_cons_succ]
      refine rg_take (i := 2) (d := some 40) (l := #[true, true, true, false, false, false, false, false, false, false]) (fuel := 7) (v := ?_) rfl (by kernel_rfl) (by kernel_rfl) (by kernel_rfl) (by kernel_rfl) (by kernel_rfl) (fun _ _ _ h => h) (by kernel_rfl) ?_ (by assumption) ?_
      rotate_left 1
      · (intro wS hSw; (try dsimp only at hSw); go_simp; try with_reducible rfl)
      try simp only [Act.put, List.setIfInBounds_toArray, List.set_cons_zero, List.set_cons_succ]
      refine rg_take (i := 3) (d := some 41) (l := #[true, true, true, true, false, false, false, false, false, false]) (fuel := 6) (v := ?_) rfl (by kernel_rfl) (by kernel_rfl) (by kernel_rfl) (by kernel_rfl) (by kernel_rfl) (fun _ _ _ h => h) (by kernel_rfl) ?_ (by assumption) ?_
      rotate_left 1
      · (intro wS hSw; (try dsimp only at hSw); go_simp; try with_reducible rfl)
      try simp only [Act.put, List.setIfInBounds_toArray, List.set_cons_zero, List.set_cons_succ]
      refine rg_take (i := 4) (d := some 42) (l := #[true, true, true, true, true, false, false, false, false, false]) (fuel := 5) (v := ?_) rfl (by kernel_rfl) (by kernel_rfl) (by kernel_rfl) (by kernel_rfl) (by kernel_rfl) (fun _ _ _ h => h) (by kernel_rfl) ?_ (by assumption) ?_
      rotate_left 1
      · (intro wS hSw; (try dsimp only at hSw); go_simp; try with_reducible rfl)
      try simp only [Act.put, List.setIfInBounds_toArray, List.set_cons_zero, List.set_cons_succ]
      refine rg_take (i := 5) (d := some 43) (l := #[true, true, true, true, true, true, false, false, false, false]) (fuel := 4) (v := ?_) rfl (by kernel_rfl) (by kernel_rfl) (by kernel_rfl) (by kernel_rfl) (by kernel_rfl) (fun _ _ _ h => h) (by kernel_rfl) ?_ (by assumption) ?_
      rotate_left 1
      · (intro wS hSw; (try dsimp only at hSw); go_simp; try with_reducible rfl)
      try simp only [Act.put, List.setIfInBounds_toArray, List.set_cons_zero, List.set_cons_succ]
      refine rg_take (i := 6) (d := some 44) (l := #[true, true, true, true, true, true, true, false, false, false]) (fuel := 3) (v := ?_) rfl (by kernel_rfl) (by kernel_rfl) (by kernel_rfl) (by kernel_rfl) (by kernel_rfl) (fun _ _ _ h => h) (by kernel_rfl) ?_ (by assumption) ?_
      rotate_left 1
      · (intro wS hSw; (try dsimp only at hSw); go_simp; try with_reducible rfl)
      try simp only [Act.put, List.setIfInBounds_toArray, List.set_cons_zero, List.set_cons_succ]
      refine rg_next (i := 7) (l := #[true, true, true, true, true, true, true, true, false, false]) (fuel := 2) (by kernel_rfl) rfl (by kernel_rfl) (by kernel_rfl) (fun K hK => ?_)
      refine wp_copy_any (.tmp 41) (.tmp 44) 181 181 rfl rfl rfl hcp2 ?_
      refine hK.out _ _ ?_ (fun hHeld => ?_)
      · (try dsimp only); exact c6
      clear hK K
      try simp only [Act.put, List.setIfInBounds_toArray, List.set_cons_zero, List.set_cons_succ]
      refine rg_take (i := 8) (d := some 46) (l := #[true, true, true, true, true, true, true, true, true, false]) (fuel := 1) (v := ?_) rfl (by kernel_rfl) (by kernel_rfl) (by kernel_rfl) (by kernel_rfl) (by kernel_rfl) (fun _ _ _ h => h) (by kernel_rfl) ?_ (by assumption) ?_
      rotate_left 1
      · (intro wS hSw; (try dsimp only at hSw); go_simp; try with_reducible rfl)
      try simp only [Act.put, List.setIfInBounds_toArray, List.set_cons_zero, List.set_cons_succ]
      refine rg_take (i := 9) (d := some 8) (l := #[true, true, true, true, true, true, true, true, true, true]) (fuel := 0) (v := ?_) rfl (by kernel_rfl) (by kernel_rfl) (by kernel_rfl) (by kernel_rfl) (by kernel_rfl) (fun _ _ _ h => h) (by kernel_rfl) ?_ (by assumption) ?_
      rotate_left 1
      · (intro wS hSw; (try dsimp only at hSw); go_simp; try with_reducible rfl)
      try simp only [Act.put, List.setIfInBounds_toArray, List.set_cons_zero, List.set_cons_succ]
      refine wpAnyH_done (by kernel_rfl) ?_ _
      clear hHeld c0 c6 hcp2
      go_wp2_with fail
      go_roundw
      case rel => exact .inr ⟨rfl, K5.out, HB5.out⟩
      case measure => simp [intOf]; decide
    · have HK := Lib.hid hk
      have HBB := Lib.hid hb
      clear hk hb
      go_wp2_with fail
      go_ret
      exact ⟨_, rfl, HK.out, by rw [HG.out]; exact Nat.le_refl _, HBB.out⟩
end Go.Proofs.YtngfmofjonleeaaGreat
namespace Go.Proofs.YtngfmofjonleeaaGreat
open Go.RowKit
set_option linter.unusedVariables false
set_option linter.unusedSimpArgs false
set_option maxRecDepth 100000
set_option maxHeartbeats 8000000
theorem own_mono2 {w : World} {base base' e size n : Nat} {v : Value} {xs : List Value} (h : w.ownsRow base e size v n xs) (hb : base' ≤ base) : w.ownsRow base' e size v n xs :=
  ⟨h.1, h.2.imp id fun ⟨g, cap, cur, he, hg, rest⟩ => ⟨g, cap, cur, he, Nat.le_trans hb hg, rest⟩⟩
theorem own_set2 {w : World} {base e size n : Nat} {v : Value} {xs : List Value} (h : w.ownsRow base e size v n xs) {p : Addr} (u : Value) (hp : v.ownBlock ≠ some p.block) : (w.setCell p u).ownsRow base e size v n xs := by
  refine ⟨h.1, ?_⟩
  rcases h.2 with hn | ⟨g, cap, cur, rfl, hg, hgg, rest⟩
  · exact .inl hn
  · exact .inr ⟨g, cap, cur, rfl, hg, (Below.heap_setCell _ _ _ _ (fun e => hp (by rw [← e]; rfl))).trans hgg, rest⟩
theorem eidle_1 (g : Nat) (r : Nat → Int) (w : World) (hg : Blk w g 25 (stA r)) :
    Calls Tryz.prog 84 #[.int .i64 1, .pointer (some ⟨g, 0, none⟩)] w fun e w' => ∃ v, e = .returned v ∧ w'.ownsRow w.heap.size 46 4 v 1 (spL (rdSp 2 [r 5])) ∧ Below w.heap.size w w' := by
  have c5 : w.cell? ⟨g, 5, none⟩ = some (.int .u16 (r 5)) := hg.cell 5
  obtain ⟨pc, hpc⟩ : ∃ pc, r 5 = pc := ⟨_, rfl⟩
  rw [hpc] at c5 ⊢
  clear hg hpc
  go_enter Tryz.func84, Tryz.ntmps84
  go_wp2_with fail
  have K1 := Blk.new w 22 #[.int .u16 pc]
  refine (erepeat_1 w.heap.size pc _ K1).mono ?_
  rintro e w2 ⟨g2, rfl, hk2, hz2, hb2⟩
  have HB2 : Hid (Below w.heap.size w w2) := Lib.hid (((Below.refl _ w).alloc (Nat.le_refl _) _).trans (hb2.mono (by simp)))
  have hl2 := hk2.lt
  clear K1 hb2 c5
  go_wp2_with fail
  refine (ereading_any 2 g2 1 1 [pc] w2 rfl (by omega) hk2).mono ?_
  rintro e w3 ⟨v, rfl, own, hb3⟩
  have OWN := Lib.hid (own_mono2 own HB2.out.size)
  have HB3 := Lib.hid (HB2.out.trans (hb3.mono HB2.out.size))
  clear own hb3 hk2 hz2 hl2
  go_wp2_with fail
  go_ret
  exact ⟨_, rfl, OWN.out, HB3.out⟩
theorem eidle_2 (g : Nat) (r : Nat → Int) (w : World) (hg : Blk w g 25 (stA r)) :
    Calls Tryz.prog 84 #[.int .i64 2, .pointer (some ⟨g, 0, none⟩)] w fun e w' => ∃ v, e = .returned v ∧ w'.ownsRow w.heap.size 46 4 v 2 (spL (rdSp 2 [r 5, r 5])) ∧ Below w.heap.size w w' := by
  have c5 : w.cell? ⟨g, 5, none⟩ = some (.int .u16 (r 5)) := hg.cell 5
  obtain ⟨pc, hpc⟩ : ∃ pc, r 5 = pc := ⟨_, rfl⟩
  rw [hpc] at c5 ⊢
  clear hg hpc
  go_enter Tryz.func84, Tryz.ntmps84
  go_wp2_with fail
  have K1 := Blk.new w 22 #[.int .u16 pc]
  refine (erepeat_2 w.heap.size pc _ K1).mono ?_
  rintro e w2 ⟨g2, rfl, hk2, hz2, hb2⟩
  have HB2 : Hid (Below w.heap.size w w2) := Lib.hid (((Below.refl _ w).alloc (Nat.le_refl _) _).trans (hb2.mono (by simp)))
  have hl2 := hk2.lt
  clear K1 hb2 c5
  go_wp2_with fail
  refine (ereading_any 2 g2 2 2 [pc, pc] w2 rfl (by omega) hk2).mono ?_
  rintro e w3 ⟨v, rfl, own, hb3⟩
  have OWN := Lib.hid (own_mono2 own HB2.out.size)
  have HB3 := Lib.hid (HB2.out.trans (hb3.mono HB2.out.size))
  clear own hb3 hk2 hz2 hl2
  go_wp2_with fail
  go_ret
  exact ⟨_, rfl, OWN.out, HB3.out⟩
/-- Registers with another stack pointer. -/
def rS (r : Nat → Int) (s : Int) : Nat → Int := fun i => if i = 3 then s else r i
theorem rS_set (r : Nat → Int) (s s' : Int) : (stA (rS r s)).setIfInBounds 3 (.int .u8 s') = stA (rS r s') := by unfold stA rS; simp
theorem rS_same (r : Nat → Int) : rS r (r 3) = r := by funext i; unfold rS; split <;> simp_all
/-- The accesses of the stack. -/
def puL (k : Nat) (r : Nat → Int) (ds : List Int) : Nat → List Sp
  | 0 => []
  | j + 1 => puL k r ds j ++ [plP k ((r 3 - j) % 256) (ds.getD j 0)]
theorem puL_len (k : Nat) (r : Nat → Int) (ds : List Int) : ∀ j, (puL k r ds j).length = j
  | 0 => rfl
  | j + 1 => by simp [puL, puL_len k r ds j]
def PuR (w wr : World) (g q b : Nat) (k : Nat) (r : Nat → Int) (ds : List Int) (j : Nat) (v : Value) : Prop :=
  wr.ownsRow w.heap.size 46 4 v j (spL (puL k r ds j)) ∧ Blk wr g 25 (stA (rS r ((r 3 - j) % 256))) ∧ Blk wr q 5 #[.int .u8 (k : Int)] ∧ Blk wr b 5 (ds.map (Value.int .u8)).toArray ∧ Kp [g] w wr
theorem epush_any (k : Nat) (hk : k < 256) (g q b c : Nat) (r : Nat → Int) (hr : StOk r) (ds : List Int) (hds : ds.length = 3) (w : World) (hg : Blk w g 25 (stA r)) (hq : Blk w q 5 #[.int .u8 (k : Int)]) (hb : Blk w b 5 (ds.map (Value.int .u8)).toArray) :
    Calls Tryz.prog 86 #[.slice (some ⟨b, 0, none⟩) 3 c, .pointer (some ⟨g, 0, none⟩), .pointer (some ⟨q, 0, none⟩)] w fun e w' => ∃ v, e = .returned v ∧ w'.ownsRow w.heap.size 46 4 v 3 (spL (puL k r ds 3)) ∧ Kp [g] w w' := by
  have p3 : 0 ≤ r 3 ∧ r 3 ≤ 255 := hr 3 (by omega)
  have h0 : PuR w w g q b k r ds 0 (.slice none 0 0) := ⟨World.ownsRow_nil _ _ _ _, by rw [show (r 3 - ((0 : Nat) : Int)) % 256 = r 3 by omega, rS_same]; exact hg, hq, hb, Kp.refl _ _⟩
  have H0 := Lib.hid h0
  have HDS := Lib.hid hds
  obtain ⟨a3, b3⟩ := p3
  clear h0 hg hq hb hds hr
  go_enter Tryz.func86, Tryz.ntmps86
  go_wp2_with fail
  go_loopw [5, 11] (fun v i wr => ∃ j : Nat, j ≤ 3 ∧ i = .int .i64 j ∧ PuR w wr g q b k r ds j v) (fun _ i _ => 3 - (intOf i).toNat)
  case atStart => exact ⟨0, by omega, rfl, H0.out⟩
  case round =>
    obtain ⟨j, hj, rfl, hP⟩ := hrel
    have HP := Lib.hid hP
    clear hP H0
    by_cases hlt : j < 3
    · obtain ⟨own, kg, kq, kb, kp⟩ := HP.out
      obtain ⟨dj, hdj⟩ : ∃ dj, ds.getD j 0 = dj := ⟨_, rfl⟩
      have cb : wr.cell? ⟨b, j, none⟩ = some (.int .u8 dj) := by
        rw [kb.cell j, ← hdj]
        have : j < ds.length := by rw [HDS.out]; exact hlt
        simp [List.getD, this]
      obtain ⟨sj, hsj⟩ : ∃ sj, (r 3 - (j : Int)) % 256 = sj := ⟨_, rfl⟩
      rw [hsj] at kg
      have sj0 : 0 ≤ sj := by omega
      have sj1 : sj ≤ 255 := by omega
      have c3 : wr.cell? ⟨g, 3, none⟩ = some (.int .u8 sj) := kg.cell 3
      have cq : wr.cell? ⟨q, 0, none⟩ = some (.int .u8 (k : Int)) := kq.cell 0
      have HPU : Hid (spL (puL k r ds (j + 1)) = spL (puL k r ds j) ++ spL [plP k sj dj]) := Lib.hid (by rw [← spL_app, ← hsj, ← hdj]; rfl)
      have HSN : Hid ((r 3 - ((j + 1 : Nat) : Int)) % 256 = (sj - 1) % 256) := Lib.hid (by rw [← hsj]; omega)
      have hms := fun W => mstack_any sj sj0 sj1 W
      have KG := Lib.hid kg
      have KQ := Lib.hid kq
      have KB := Lib.hid kb
      have KP := Lib.hid kp
      have OW := Lib.hid own
      have u2 : IntKind.u8.wrap (sj - 1) = (sj - 1) % 256 := by simp [IntKind.wrap, IntKind.signed, IntKind.bits]
      clear hdj hsj own kg kq kb kp
      by_cases hk1 : k = 1
      · have ek : ((k : Int) == 1) = true := by simp; omega
        have HPJ : Hid (plP k sj dj = ⟨2, 8448 + sj, false, 0⟩) := Lib.hid (if_pos hk1)
        clear hk1
        go_upto_region 6 with (go_at_call 87; refine (hms _).mono ?_; rintro e w' ⟨rfl, rfl⟩)
        have KX : Hid (Blk (wr.alloc (.cells #[.int .u8 5, .int .u16 (8448 + sj), .bool true, .int .u8 dj] 46)) wr.heap.size 46 #[.int .u8 5, .int .u16 (8448 + sj), .bool true, .int .u8 dj]) := Lib.hid (Blk.new _ _ _)
        have KG5 := Lib.hid (KG.out.alloc (.cells #[.int .u8 5, .int .u16 (8448 + sj), .bool true, .int .u8 dj] 46))
        have KQ5 := Lib.hid (KQ.out.alloc (.cells #[.int .u8 5, .int .u16 (8448 + sj), .bool true, .int .u8 dj] 46))
        have KB5 := Lib.hid (KB.out.alloc (.cells #[.int .u8 5, .int .u16 (8448 + sj), .bool true, .int .u8 dj] 46))
        have KP5 := Lib.hid (KP.out.alloc (.cells #[.int .u8 5, .int .u16 (8448 + sj), .bool true, .int .u8 dj] 46))
        have OW5 := Lib.hid (OW.out.alloc (.cells #[.int .u8 5, .int .u16 (8448 + sj), .bool true, .int .u8 dj] 46))
        have hob : u5.ownBlock ≠ some wr.heap.size := fun e => by have := (OW.out.lt _ e).2; omega
        have zz : w.heap.size ≤ wr.heap.size := KP.out.size
        obtain ⟨gx, hgx⟩ : ∃ gx, wr.heap.size = gx := ⟨_, rfl⟩
        obtain ⟨w5, hw5⟩ : ∃ w5, wr.alloc (.cells #[.int .u8 5, .int .u16 (8448 + sj), .bool true, .int .u8 dj] 46) = w5 := ⟨_, rfl⟩
        rw [hw5] at KX KG5 KQ5 KB5 KP5 OW5 ⊢
        rw [hgx] at KX hob zz ⊢
        have HGX := Lib.hid (And.intro zz hob)
        have kx := KX.out
        have cq5 : w5.cell? ⟨q, 0, none⟩ = some (.int .u8 (k : Int)) := KQ5.out.cell 0
        clear hw5 hgx zz hob KX KG KQ KB KP OW c3 cq cb
        have x0 : w5.cell? ⟨gx, 0, none⟩ = some (.int .u8 5) := kx.cell 0
        have x1 : w5.cell? ⟨gx, 1, none⟩ = some (.int .u16 (8448 + sj)) := kx.cell 1
        have x2 : w5.cell? ⟨gx, 2, none⟩ = some (.bool true) := kx.cell 2
        have x3 : w5.cell? ⟨gx, 3, none⟩ = some (.int .u8 dj) := kx.cell 3
        have f0 : w5.frozen? ⟨gx, 0, none⟩ = false := kx.frozen 0
        have f1 : w5.frozen? ⟨gx, 1, none⟩ = false := kx.frozen 1
        have f2 : w5.frozen? ⟨gx, 2, none⟩ = false := kx.frozen 2
        have f3 : w5.frozen? ⟨gx, 3, none⟩ = false := kx.frozen 3
        have kx6 := (((kx.set_ 0 (.int .u8 2)).set_ 1 (.int .u16 (8448 + sj))).set_ 2 (.bool false)).set_ 3 (.int .u8 0)
        have OW6 := Lib.hid (own_set2 (own_set2 (own_set2 (own_set2 OW5.out (p := ⟨gx, 0, none⟩) (.int .u8 2) HGX.out.2) (p := ⟨gx, 1, none⟩) (.int .u16 (8448 + sj)) HGX.out.2) (p := ⟨gx, 2, none⟩) (.bool false) HGX.out.2) (p := ⟨gx, 3, none⟩) (.int .u8 0) HGX.out.2)
        have n1 : g ≠ gx := Blk.ne_ KG5.out kx (by decide)
        have n2 : q ≠ gx := Blk.ne_ KQ5.out kx (by decide)
        have n3 : b ≠ gx := Blk.ne_ KB5.out kx (by decide)
        have KG7 := Lib.hid ((((((KG5.out.far (p := ⟨gx, 0, none⟩) n1 (.int .u8 2)).far (p := ⟨gx, 1, none⟩) n1 (.int .u16 (8448 + sj))).far (p := ⟨gx, 2, none⟩) n1 (.bool false)).far (p := ⟨gx, 3, none⟩) n1 (.int .u8 0))))
        have KQ7 := Lib.hid ((((((KQ5.out.far (p := ⟨gx, 0, none⟩) n2 (.int .u8 2)).far (p := ⟨gx, 1, none⟩) n2 (.int .u16 (8448 + sj))).far (p := ⟨gx, 2, none⟩) n2 (.bool false)).far (p := ⟨gx, 3, none⟩) n2 (.int .u8 0))))
        have KB7 := Lib.hid ((((((KB5.out.far (p := ⟨gx, 0, none⟩) n3 (.int .u8 2)).far (p := ⟨gx, 1, none⟩) n3 (.int .u16 (8448 + sj))).far (p := ⟨gx, 2, none⟩) n3 (.bool false)).far (p := ⟨gx, 3, none⟩) n3 (.int .u8 0))))
        have KP7 := Lib.hid ((((KP5.out.setCell (p := ⟨gx, 0, none⟩) (.inr HGX.out.1) (.int .u8 2)).setCell (p := ⟨gx, 1, none⟩) (.inr HGX.out.1) (.int .u16 (8448 + sj))).setCell (p := ⟨gx, 2, none⟩) (.inr HGX.out.1) (.bool false)).setCell (p := ⟨gx, 3, none⟩) (.inr HGX.out.1) (.int .u8 0))
        go_upto_region 8 with fail
        obtain ⟨w6, hw6⟩ : ∃ w6, (((w5.setCell ⟨gx, 0, none⟩ (.int .u8 2)).setCell ⟨gx, 1, none⟩ (.int .u16 (8448 + sj))).setCell ⟨gx, 2, none⟩ (.bool false)).setCell ⟨gx, 3, none⟩ (.int .u8 0) = w6 := ⟨_, rfl⟩
        rw [hw6] at kx6 OW6 KG7 KQ7 KB7 KP7 ⊢
        clear hw6 kx x0 x1 x2 x3 f0 f1 f2 f3 n1 n2 n3 OW5 KG5 KQ5 KB5 KP5 cq5
        have kx : Blk w6 gx 46 #[.int .u8 2, .int .u16 (8448 + sj), .bool false, .int .u8 0] := kx6
        have OW5 := OW6
        have KG5 := KG7
        have KQ5 := KQ7
        have KB5 := KB7
        have KP5 := KP7
        clear OW6 KG7 KQ7 KB7 KP7 kx6
        have HSX : Hid ((Tryz.prog.info? 46).map (·.size) = some (#[.int .u8 2, .int .u16 (8448 + sj), .bool false, .int .u8 0] : Array Value).size) := Lib.hid (by kernel_rfl)
        obtain ⟨v', w', hrun, own', gb⟩ := more_sp (P := Tryz.prog) (t := 26) (e := 46) (ty := 26) (c := 1) (m := 1) Tryz.underlying26 esp_info OW5.out [plP k sj dj] #[.int .u8 2, .int .u16 (8448 + sj), .bool false, .int .u8 0] (by rw [HPJ.out]; rfl) rfl (by omega) KP5.out.size
        have HW : Hid (w'.ownsRow w.heap.size 46 4 v' (j + 1) (spL (puL k r ds (j + 1)))) := Lib.hid (by rw [HPU.out]; exact own')
        have KG6 := Lib.hid ((KG5.out.alloc _).grown gb (blk_not_row KG5.out (by decide) OW5.out))
        have KQ6 := Lib.hid ((KQ5.out.alloc _).grown gb (blk_not_row KQ5.out (by decide) OW5.out))
        have KB6 := Lib.hid ((KB5.out.alloc _).grown gb (blk_not_row KB5.out (by decide) OW5.out))
        have KP6 : Hid (Kp [g] w w') := Lib.hid ((KP5.out.alloc _).trans (Kp.of_grown (L := u5.ownBlock.toList) gb (fun i h => by rw [h]; simp)) (fun x hx => .inr (OW5.out.lt x (by simpa using hx)).1))
        clear own' gb
        have c3' : w'.cell? ⟨g, 3, none⟩ = some (.int .u8 sj) := KG6.out.cell 3
        have f3' : w'.frozen? ⟨g, 3, none⟩ = false := KG6.out.frozen 3
        have n2 : q ≠ g := Blk.ne_ KQ6.out KG6.out (by decide)
        have n3 : b ≠ g := Blk.ne_ KB6.out KG6.out (by decide)
        have n4 : v'.ownBlock ≠ some g := fun e => blk_not_row KG6.out (by decide) HW.out e.symm
        go_wp2_with (first
          | (refine wpList_load_row rfl 46 (.tmp 8) rfl gx (by rfl) 46 #[.int .u8 2, .int .u16 (8448 + sj), .bool false, .int .u8 0] (0, 0) _ kx Tryz.underlying46 rfl HSX.out ?_)
          | (at_builtin; refine wpList_append_run rfl (.tmp 25) (.tmp 27) 26 rfl rfl rfl hrun ?_))
        go_roundw
        case rel =>
          refine ⟨j + 1, by omega, by go_num, own_set2 HW.out _ n4, ?_, KQ6.out.far n2 _, KB6.out.far n3 _, KP6.out.setCell (.inl (by simp)) _⟩
          rw [HSN.out, ← rS_set r sj]
          exact KG6.out.set_ 3 _
        case measure => simp [intOf]; omega
      · have ek : ((k : Int) == 1) = false := by simp; omega
        have HPJ : Hid (plP k sj dj = ⟨5, 8448 + sj, true, dj⟩) := Lib.hid (if_neg hk1)
        clear hk1
        go_upto_region 6 with (go_at_call 87; refine (hms _).mono ?_; rintro e w' ⟨rfl, rfl⟩)
        have KX : Hid (Blk (wr.alloc (.cells #[.int .u8 5, .int .u16 (8448 + sj), .bool true, .int .u8 dj] 46)) wr.heap.size 46 #[.int .u8 5, .int .u16 (8448 + sj), .bool true, .int .u8 dj]) := Lib.hid (Blk.new _ _ _)
        have KG5 := Lib.hid (KG.out.alloc (.cells #[.int .u8 5, .int .u16 (8448 + sj), .bool true, .int .u8 dj] 46))
        have KQ5 := Lib.hid (KQ.out.alloc (.cells #[.int .u8 5, .int .u16 (8448 + sj), .bool true, .int .u8 dj] 46))
        have KB5 := Lib.hid (KB.out.alloc (.cells #[.int .u8 5, .int .u16 (8448 + sj), .bool true, .int .u8 dj] 46))
        have KP5 := Lib.hid (KP.out.alloc (.cells #[.int .u8 5, .int .u16 (8448 + sj), .bool true, .int .u8 dj] 46))
        have OW5 := Lib.hid (OW.out.alloc (.cells #[.int .u8 5, .int .u16 (8448 + sj), .bool true, .int .u8 dj] 46))
        have hob : u5.ownBlock ≠ some wr.heap.size := fun e => by have := (OW.out.lt _ e).2; omega
        have zz : w.heap.size ≤ wr.heap.size := KP.out.size
        obtain ⟨gx, hgx⟩ : ∃ gx, wr.heap.size = gx := ⟨_, rfl⟩
        obtain ⟨w5, hw5⟩ : ∃ w5, wr.alloc (.cells #[.int .u8 5, .int .u16 (8448 + sj), .bool true, .int .u8 dj] 46) = w5 := ⟨_, rfl⟩
        rw [hw5] at KX KG5 KQ5 KB5 KP5 OW5 ⊢
        rw [hgx] at KX hob zz ⊢
        have HGX := Lib.hid (And.intro zz hob)
        have kx := KX.out
        have cq5 : w5.cell? ⟨q, 0, none⟩ = some (.int .u8 (k : Int)) := KQ5.out.cell 0
        clear hw5 hgx zz hob KX KG KQ KB KP OW c3 cq cb
        have HSX : Hid ((Tryz.prog.info? 46).map (·.size) = some (#[.int .u8 5, .int .u16 (8448 + sj), .bool true, .int .u8 dj] : Array Value).size) := Lib.hid (by kernel_rfl)
        obtain ⟨v', w', hrun, own', gb⟩ := more_sp (P := Tryz.prog) (t := 26) (e := 46) (ty := 26) (c := 1) (m := 1) Tryz.underlying26 esp_info OW5.out [plP k sj dj] #[.int .u8 5, .int .u16 (8448 + sj), .bool true, .int .u8 dj] (by rw [HPJ.out]; rfl) rfl (by omega) KP5.out.size
        have HW : Hid (w'.ownsRow w.heap.size 46 4 v' (j + 1) (spL (puL k r ds (j + 1)))) := Lib.hid (by rw [HPU.out]; exact own')
        have KG6 := Lib.hid ((KG5.out.alloc _).grown gb (blk_not_row KG5.out (by decide) OW5.out))
        have KQ6 := Lib.hid ((KQ5.out.alloc _).grown gb (blk_not_row KQ5.out (by decide) OW5.out))
        have KB6 := Lib.hid ((KB5.out.alloc _).grown gb (blk_not_row KB5.out (by decide) OW5.out))
        have KP6 : Hid (Kp [g] w w') := Lib.hid ((KP5.out.alloc _).trans (Kp.of_grown (L := u5.ownBlock.toList) gb (fun i h => by rw [h]; simp)) (fun x hx => .inr (OW5.out.lt x (by simpa using hx)).1))
        clear own' gb
        have c3' : w'.cell? ⟨g, 3, none⟩ = some (.int .u8 sj) := KG6.out.cell 3
        have f3' : w'.frozen? ⟨g, 3, none⟩ = false := KG6.out.frozen 3
        have n2 : q ≠ g := Blk.ne_ KQ6.out KG6.out (by decide)
        have n3 : b ≠ g := Blk.ne_ KB6.out KG6.out (by decide)
        have n4 : v'.ownBlock ≠ some g := fun e => blk_not_row KG6.out (by decide) HW.out e.symm
        go_wp2_with (first
          | (refine wpList_load_row rfl 46 (.tmp 8) rfl gx (by rfl) 46 #[.int .u8 5, .int .u16 (8448 + sj), .bool true, .int .u8 dj] (0, 0) _ kx Tryz.underlying46 rfl HSX.out ?_)
          | (at_builtin; refine wpList_append_run rfl (.tmp 25) (.tmp 27) 26 rfl rfl rfl hrun ?_))
        go_roundw
        case rel =>
          refine ⟨j + 1, by omega, by go_num, own_set2 HW.out _ n4, ?_, KQ6.out.far n2 _, KB6.out.far n3 _, KP6.out.setCell (.inl (by simp)) _⟩
          rw [HSN.out, ← rS_set r sj]
          exact KG6.out.set_ 3 _
        case measure => simp [intOf]; omega
    · obtain rfl : j = 3 := by omega
      clear hlt hj
      go_wp2_with fail
      go_ret
      exact ⟨_, rfl, HP.out.1, HP.out.2.2.2.2⟩
end Go.Proofs.YtngfmofjonleeaaGreat
namespace Go.Proofs.YtngfmofjonleeaaGreat
open Go.RowKit
set_option linter.unusedVariables false
set_option linter.unusedSimpArgs false
set_option maxRecDepth 100000
set_option maxHeartbeats 8000000
theorem egrow_any (m : Nat) (h0 : 0 < m) (h1 : m ≤ 1000) (w : World) :
    Calls Tryz.prog 113 #[.slice none 0 0, .int .i64 m] w fun e w' => ∃ v, e = .returned v ∧ w'.ownsRow w.heap.size 46 4 v 0 [] ∧ Below w.heap.size w w' := by
  obtain ⟨i, hi, hzz⟩ := Option.map_eq_some_iff.1 esp_info
  simp only [Prod.mk.injEq] at hzz
  obtain ⟨hz, hs, hb⟩ := hzz
  have hrun := Lib.run_append_nil_zeros (P := Tryz.prog) w 26 3 26 46 i _ .i64 .i64 Tryz.underlying26 Tryz.underlying3 hi hz m h0 (by omega) (by omega) (by rw [hb]; omega)
  have hge := grownCap_ge w m 0 46
  have hle := grownCap_le_maxLen w m 0 46 (by simp only [maxLen]; omega)
  obtain ⟨C, hC⟩ : ∃ C, grownCap w m 0 46 = C := ⟨_, rfl⟩
  rw [hC] at hrun hge hle
  obtain ⟨cs, hcs⟩ : ∃ cs, Builtin.zeroCells (Value.agg #[.int .u8 0, .int .u16 0, .bool false, .int .u8 0]).cells m ++ Builtin.zeroCells (Value.agg #[.int .u8 0, .int .u16 0, .bool false, .int .u8 0]).cells (C - m) = cs := ⟨_, rfl⟩
  have hsz : cs.size = C * 4 := by
    rw [← hcs, Array.size_append, size_zeroCells, size_zeroCells, show (Value.agg #[.int .u8 0, .int .u16 0, .bool false, .int .u8 0]).cells.size = 4 from rfl]; omega
  rw [hcs] at hrun
  clear hcs hC hi hz hs hb
  have HB := Lib.hid (show Below w.heap.size w (w.drew.alloc (.cells cs 46)) from ((Below.refl _ w).drew).alloc (Nat.le_refl _) _)
  have HH : Hid ((w.drew.alloc (.cells cs 46)).heap[w.heap.size]? = some (.cells cs 46 (0, 0))) := Lib.hid (heap_alloc_new w.drew _)
  obtain ⟨G, hG⟩ : ∃ G, w.heap.size = G := ⟨_, rfl⟩
  obtain ⟨w1, hw1⟩ : ∃ w1, w.drew.alloc (.cells cs 46) = w1 := ⟨_, rfl⟩
  rw [hw1] at hrun HB HH
  rw [hG] at hrun HB HH ⊢
  have HO := Lib.hid (And.intro hsz (And.intro hge hle))
  clear hw1 hG hsz hge hle
  go_enter Tryz.func113, Tryz.ntmps113
  go_wp2_with (at_builtin; refine Lib.wpList_append_run _ rfl (.tmp 20) (.tmp 21) _ _ rfl _ _ rfl rfl _ _ hrun ?_)
  go_ret
  exact ⟨_, rfl, ⟨rfl, .inr ⟨G, C, cs, rfl, Nat.le_refl _, HH.out, Nat.zero_le _, HO.out.2.2, HO.out.1, by simp⟩⟩, HB.out⟩
end Go.Proofs.YtngfmofjonleeaaGreat
namespace Go.Proofs.YtngfmofjonleeaaGreat
open Go.RowKit
set_option linter.unusedVariables false
set_option linter.unusedSimpArgs false
set_option maxRecDepth 100000
set_option maxHeartbeats 8000000
theorem own_form {W : World} {base size n : Nat} {e : TypeId} {v : Value} {xs : List Value} (h : W.ownsRow base e size v n xs) (hn : 0 < n) : ∃ b c, v = .slice (some ⟨b, 0, none⟩) n c ∧ base ≤ b ∧ b < W.heap.size := by
  rcases h.2 with ⟨_, h0⟩ | ⟨g, cap, cur, hv, hg, hgg, _⟩
  · omega
  · exact ⟨g, cap, hv, hg, (h.lt g (by rw [hv]; rfl)).2⟩
/-- A piece behind a row of the call's own. -/
theorem more_spo {P : Program} {t e ty : TypeId} {w : World} {base n m b c base2 : Nat} {v : Value} {xs : List Value} (ht : P.underlying t = some (.slice e))
    (hinfo : (P.info? e).map (fun i => (i.zero, i.size, i.bytes)) = some (some (.agg #[.int .u8 0, .int .u16 0, .bool false, .int .u8 0]), 4, 6)) (hown : w.ownsRow base e 4 v n xs) (l : List Sp) (hm : m = l.length)
    (hp : w.ownsRow base2 e 4 (.slice (some ⟨b, 0, none⟩) m c) m (spL l)) (hn : n + m ≤ 1000000) (hb : base ≤ w.heap.size) :
    ∃ v' w', (Builtin.append_ #[t, t] ty #[v, .slice (some ⟨b, 0, none⟩) m c]).run P w = .ok v' w' ∧ w'.ownsRow base e 4 v' (n + m) (xs ++ spL l) ∧ w.grownBy w' v.ownBlock := by
  obtain ⟨i, hi, hzz⟩ := Option.map_eq_some_iff.1 hinfo
  simp only [Prod.mk.injEq] at hzz
  obtain ⟨hz, hs, hby⟩ := hzz
  obtain ⟨v', w', h1, h2, h3, _, _⟩ := run_append_own_at (P := P) w base t ty e i _ 4 6 ht hi hz hs hby rfl (by omega) v n xs hown ⟨b, 0, none⟩ m c (spL l) (by rw [spL_len, hm]; omega) (hp.cells rfl) (spL_one l) (by simp only [maxLen]; omega) (by omega) hb
  exact ⟨v', w', h1, h2, h3⟩
def flP (ps : List (Value × List Sp)) : List Sp := ps.flatMap (·.2)
theorem flP_take (ps : List (Value × List Sp)) (j : Nat) (p : Value × List Sp) (h : ps[j]? = some p) : flP (ps.take (j + 1)) = flP (ps.take j) ++ p.2 := by
  unfold flP
  rw [List.take_add_one, h]; simp
theorem flP_le (ps : List (Value × List Sp)) (j : Nat) : (flP (ps.take j)).length ≤ (flP ps).length := by
  have : flP ps = flP (ps.take j) ++ flP (ps.drop j) := by unfold flP; rw [← List.flatMap_append, List.take_append_drop]
  rw [this, List.length_append]; omega
theorem econcat_any (g n c B : Nat) (ps : List (Value × List Sp)) (hn : ps.length = n) (h0 : 0 < n) (hn1 : n ≤ 1000) (w : World) (hg : Blk w g 26 (ps.map (·.1)).toArray)
    (hps : ∀ p ∈ ps, w.ownsRow B 46 4 p.1 p.2.length (spL p.2) ∧ 0 < p.2.length) (ht : (flP ps).length ≤ 1000) :
    Calls Tryz.prog 88 #[.slice (some ⟨g, 0, none⟩) n c] w fun e w' => ∃ v, e = .returned v ∧ w'.ownsRow w.heap.size 46 4 v (flP ps).length (spL (flP ps)) ∧ Below w.heap.size w w' := by
  have HPS := Lib.hid hps
  have KG := Lib.hid hg
  have HN := Lib.hid hn
  have HT0 : 0 < (flP ps).length := by
    obtain ⟨p, hp⟩ : ∃ p, ps[0]? = some p := ⟨ps[0]'(by omega), List.getElem?_eq_getElem _⟩
    have h1 := flP_take ps 0 p hp
    have h2 := flP_le ps 1
    have h3 := (hps p (List.mem_of_getElem? hp)).2
    rw [h1, List.length_append] at h2; omega
  clear hps hg hn
  have HLE := Lib.hid (flP_le ps)
  have HTK := Lib.hid (flP_take ps)
  obtain ⟨T, hT⟩ : ∃ T, (flP ps).length = T := ⟨_, rfl⟩
  rw [hT] at ht HT0 ⊢
  have HTT := Lib.hid hT
  clear hT
  go_enter Tryz.func88, Tryz.ntmps88
  go_wp2_with fail
  go_loop [3, 11] (fun s i => ∃ j : Nat, j ≤ n ∧ i = .int .i64 j ∧ s = .int .i64 (((flP (ps.take j)).length : Nat) : Int)) (fun _ i => n - (intOf i).toNat)
  case atStart => exact ⟨0, by omega, rfl, rfl⟩
  case round =>
    obtain ⟨j, hj, rfl, rfl⟩ := hrel
    by_cases hlt : j < n
    · obtain ⟨p, hp⟩ : ∃ p, ps[j]? = some p := ⟨ps[j]'(by rw [HN.out]; exact hlt), List.getElem?_eq_getElem _⟩
      have hm := HPS.out p (List.mem_of_getElem? hp)
      obtain ⟨b, cp, hv, _, _⟩ := own_form hm.1 hm.2
      have hc : w.cell? ⟨g, j, none⟩ = some (.slice (some ⟨b, 0, none⟩) p.2.length cp) := by rw [KG.out.cell j, ← hv]; simp [hp]
      have htk := HTK.out j p hp
      have hl1 := HLE.out (j + 1)
      rw [htk, List.length_append, HTT.out] at hl1
      obtain ⟨S, hS⟩ : ∃ S, (flP (ps.take j)).length = S := ⟨_, rfl⟩
      obtain ⟨k, hk⟩ : ∃ k, p.2.length = k := ⟨_, rfl⟩
      rw [hS, hk] at hl1
      rw [hk] at hc
      rw [hS]
      have HS' : Hid ((((flP (ps.take (j + 1))).length : Nat) : Int) = (S : Int) + k) := Lib.hid (by rw [htk, List.length_append, hS, hk]; simp)
      clear htk hS hk hm hv
      go_wp2_with fail
      go_round
      case rel => exact ⟨j + 1, by omega, by go_num, by rw [HS'.out]⟩
      case measure => simp [intOf]; omega
    · obtain rfl : j = n := by omega
      have hfl : (flP (ps.take j)).length = T := by rw [List.take_of_length_le (by rw [HN.out]; exact Nat.le_refl _)]; exact HTT.out
      rw [hfl]
      clear hfl hlt hj
      go_wp2_with (go_at_call 113; refine (egrow_any T HT0 ht _).mono ?_; rintro e w1 ⟨v1, rfl, own1, hb1⟩)
      have OWN1 := Lib.hid own1
      have HB1 := Lib.hid hb1
      clear own1 hb1
      go_wp2_with fail
      go_loopw [6, 27] (fun v i wr => ∃ q : Nat, q ≤ j ∧ i = .int .i64 q ∧ wr.ownsRow w.heap.size 46 4 v (flP (ps.take q)).length (spL (flP (ps.take q))) ∧ Below w.heap.size w wr) (fun _ i _ => j - (intOf i).toNat)
      case atStart => exact ⟨0, by omega, rfl, OWN1.out, HB1.out⟩
      case round =>
        obtain ⟨q, hq, rfl, own, hB⟩ := hrel
        have OWN := Lib.hid own
        have HB := Lib.hid hB
        clear own hB
        by_cases hlt : q < j
        · obtain ⟨p, hp⟩ : ∃ p, ps[q]? = some p := ⟨ps[q]'(by rw [HN.out]; exact hlt), List.getElem?_eq_getElem _⟩
          have hm := HPS.out p (List.mem_of_getElem? hp)
          obtain ⟨b, cp, hv, _, _⟩ := own_form hm.1 hm.2
          have hc : wr.cell? ⟨g, q, none⟩ = some (.slice (some ⟨b, 0, none⟩) p.2.length cp) := by
            rw [HB.out.cell (p := ⟨g, q, none⟩) KG.out.lt, KG.out.cell q, ← hv]; simp [hp]
          have htk := HTK.out q p hp
          have hl1 := HLE.out (q + 1)
          rw [htk, List.length_append, HTT.out] at hl1
          have hpo := own_belowG hm.1 HB.out
          rw [hv] at hpo
          obtain ⟨v', w', hrun, own', gb⟩ := more_spo (P := Tryz.prog) (t := 26) (e := 46) (ty := 26) (c := cp) (m := p.2.length) Tryz.underlying26 esp_info OWN.out p.2 rfl hpo (by omega) HB.out.size
          have HW : Hid (w'.ownsRow w.heap.size 46 4 v' (flP (ps.take (q + 1))).length (spL (flP (ps.take (q + 1))))) := Lib.hid (by rw [htk, List.length_append, spL_app]; exact own')
          have HB6 := Lib.hid (HB.out.grown gb HB.out.size (fun i h => (OWN.out.lt i h).1))
          obtain ⟨k, hk⟩ : ∃ k, p.2.length = k := ⟨_, rfl⟩
          rw [hk] at hc hrun
          clear own' gb htk hl1 hpo hm hv hk
          go_wp2_with (at_builtin; refine wpList_append_run rfl (.tmp 31) (.tmp 32) 26 rfl rfl rfl hrun ?_)
          go_roundw
          case rel => exact ⟨q + 1, by omega, by go_num, HW.out, HB6.out⟩
          case measure => simp [intOf]; omega
        · obtain rfl : q = j := by omega
          have own := OWN.out
          rw [List.take_of_length_le (by rw [HN.out]; exact Nat.le_refl _), HTT.out] at own
          have OWN2 := Lib.hid own
          clear own
          go_wp2_with fail
          go_ret
          exact ⟨_, rfl, OWN2.out, HB.out⟩
theorem etogether_any (g n c B : Nat) (ps : List (Value × List Sp)) (hn : ps.length = n) (h0 : 0 < n) (hn1 : n ≤ 1000) (w : World) (hg : Blk w g 26 (ps.map (·.1)).toArray)
    (hps : ∀ p ∈ ps, w.ownsRow B 46 4 p.1 p.2.length (spL p.2) ∧ 0 < p.2.length) (ht : (flP ps).length ≤ 1000) :
    Calls Tryz.prog 48 #[.slice (some ⟨g, 0, none⟩) n c] w fun e w' => ∃ v, e = .returned v ∧ w'.ownsRow w.heap.size 46 4 v (flP ps).length (spL (flP ps)) ∧ Below w.heap.size w w' := by
  have hcon := fun W (h : W = w) => econcat_any g n c B ps hn h0 hn1 W (h ▸ hg) (h ▸ hps) ht
  have HC := Lib.hid hcon
  clear hcon hg hps hn ht
  go_enter Tryz.func48, Tryz.ntmps48
  go_wp2_with (go_at_call 88; refine (HC.out _ rfl).mono ?_; rintro e w1 ⟨v1, rfl, own1, hb1⟩)
  have OWN1 := Lib.hid own1
  have HB1 := Lib.hid hb1
  clear own1 hb1
  go_wp2_with fail
  go_ret
  exact ⟨_, rfl, OWN1.out, HB1.out⟩
end Go.Proofs.YtngfmofjonleeaaGreat
namespace Go.Proofs.YtngfmofjonleeaaGreat
open Go.RowKit
set_option linter.unusedVariables false
set_option linter.unusedSimpArgs false
set_option maxRecDepth 100000
set_option maxHeartbeats 8000000
end Go.Proofs.YtngfmofjonleeaaGreat
