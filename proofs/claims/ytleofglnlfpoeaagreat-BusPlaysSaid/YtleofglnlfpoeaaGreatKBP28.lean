/-
  Texts of these proofs, one behind the other: Bus5, Bus6, Port3.
-/
import Derived.Test.YtleofglnlfpoeaaGreatKBP27
import Derived.Test.YtleofglnlfpoeaaGreatKBP16
import Derived.Test.YtleofglnlfpoeaaGreatKBP10
import Derived.RangeFuncBox
import Derived.Test.YtleofglnlfpoeaaGreatKBP18
import Derived.BigRegion
import Derived.RegionTactic
namespace Go.Proofs.YtleofglnlfpoeaaGreat
open Go.RowKit
set_option linter.unusedVariables false
set_option linter.unusedSimpArgs false
set_option maxRecDepth 100000
/-- An append whose run is known, anywhere. -/
theorem wp_append_anyB {P : Program} {w w' : World} {o : Oper} {a : Act} {K : Act → World → Prop} {Q : Exit → Act → World → Prop} (s x : Operand) (t : TypeId)
    (ho : o.op = .call { callee := .builtin .append, args := #[s, x], argTypes := #[t, t] }) {v u v' : Value} (hs : a.eval s = v) (hx : a.eval x = u)
    (hrun : (Builtin.append_ #[t, t] o.type #[v, u]).run P w = .ok v' w') (h : K (a.put o.dst v') w') : Oper.wp P o a w K Q := by
  unfold Oper.wp execOp
  simp only [ho, resolve, invoke, builtin, Sem.run_bind, Sem.run_pure, Result.andThen_ok, List.map_toArray, List.map_cons, List.map_nil, hs, hx, hrun]
  exact h
theorem acc_info : (Tryz.prog.info? 62).map (fun i => (i.zero, i.size, i.bytes)) = some (some (.agg #[.int .i64 0, .int .u32 0, .int .u8 0, .bool false, .int .u8 0]), 5, 16) := by kernel_rfl
/-- Behind what was told one access more. -/
theorem more_acc {ty : TypeId} {w : World} {n : Nat} {v : Value} {xs : List Value} (hown : w.ownsRow 0 62 5 v n xs) (a : Acc) (hn : n ≤ 1000000) :
    ∃ v' w', (Builtin.append_ #[50, 50] ty #[v, .slice (some ⟨w.heap.size, 0, none⟩) 1 1]).run Tryz.prog (w.alloc (.cells (accC a).toArray 62)) = .ok v' w' ∧ w'.ownsRow 0 62 5 v' (n + 1) (xs ++ accC a) ∧
      (w.alloc (.cells (accC a).toArray 62)).grownBy w' v.ownBlock ∧ (v'.ownBlock = v.ownBlock ∨ v'.ownBlock = some (w.heap.size + 1)) := by
  obtain ⟨i, hi, hzz⟩ := Option.map_eq_some_iff.1 acc_info
  simp only [Prod.mk.injEq] at hzz
  obtain ⟨hz, hs, hb⟩ := hzz
  obtain ⟨v', w', h1', h2, h3, _, h5⟩ := run_append_own_at (P := Tryz.prog) (w.alloc (.cells (accC a).toArray 62)) 0 50 ty 62 i _ 5 16 Tryz.underlying50 hi hz hs hb rfl (by decide) v n xs (hown.alloc _) ⟨w.heap.size, 0, none⟩ 1 1 (accC a) rfl
    (fun j u hu => by
      rw [add_zero_block, cell_of_row _ _ j _ 62 (0, 0) (heap_alloc_new w _)]
      simpa using hu)
    (fun u hu => by simp only [accC, List.mem_cons, List.not_mem_nil, or_false] at hu; rcases hu with rfl | rfl | rfl | rfl | rfl <;> rfl) (by unfold maxLen; omega) (by omega) (by simp)
  refine ⟨v', w', h1', h2, h3, ?_⟩
  rcases h5 with h5 | h5
  · exact .inl h5
  · right; rw [h5]; simp
section
variable {w : World} {g : Nat} {d : Hd} {Q : Bp} {s : Bs}
/-- An access more is told. -/
theorem BU.told (h : BU w g d Q s) (a : Acc) {v' : Value} {w5 : World} (own : w5.ownsRow 0 62 5 v' (s.tl.length + 1) (accL s.tl ++ accC a))
    (gb : (w.alloc (.cells (accC a).toArray 62)).grownBy w5 Q.tr.ownBlock) (fr : v'.ownBlock = Q.tr.ownBlock ∨ v'.ownBlock = some (w.heap.size + 1)) :
    BuR (.tuple #[]) g d Q { s with tl := s.tl ++ [a] } w (.returned (.tuple #[])) (w5.setCell ⟨g, 10, none⟩ v') ∧ Kp (bL g Q) w w5 := by
  have ka : Kp [] w (w.alloc (.cells (accC a).toArray 62)) := (Kp.refl _ _).alloc _
  have kb : Kp Q.tr.ownBlock.toList (w.alloc (.cells (accC a).toArray 62)) w5 := ⟨gb.os, gb.tape, gb.output, gb.size, fun k hk hr => gb.block k hk (fun e => hr (by rw [← e]; simp))⟩
  have k1 : Kp Q.tr.ownBlock.toList w w5 := (ka.mono (by simp)).trans kb (fun y hy => .inl hy)
  have k2 : Kp [g] w5 (w5.setCell ⟨g, 10, none⟩ v') := (Kp.refl _ _).setCell (p := ⟨g, 10, none⟩) (.inl (by simp)) _
  have k3 : Kp (g :: Q.tr.ownBlock.toList) w (w5.setCell ⟨g, 10, none⟩ v') := (k1.mono (fun y hy => List.mem_cons_of_mem _ hy)).trans (k2.mono (M := g :: Q.tr.ownBlock.toList) (by simp)) (fun y hy => .inl hy)
  obtain ⟨⟨v1, b1⟩, ⟨v2, b2⟩, ⟨v3, b3⟩, ⟨cp, bp⟩⟩ := h.boxes
  have nb : ∀ y ∈ g :: Q.tr.ownBlock.toList, NB w y := fun y hy => h.nb y (mem_bL.2 (by
    simp only [List.mem_cons, Option.mem_toList, Option.mem_def] at hy
    rcases hy with hy | hy <;> simp [hy]))
  have off : ∀ {u : Nat} {t : TypeId} {cs : Array Value}, Blk w u t cs → t ≠ 126 → t ≠ 62 → u ∉ g :: Q.tr.ownBlock.toList := fun hu n1 n2 hy => by
    simp only [List.mem_cons, Option.mem_toList, Option.mem_def] at hy
    rcases hy with rfl | e
    · exact hu.ne_ h.blk n1 rfl
    · obtain ⟨cs', hc⟩ := tr_blk h.tr _ e; exact hu.ne_ hc n2 rfl
  have hgt : g ∉ Q.tr.ownBlock.toList := fun hy => by
    simp only [Option.mem_toList, Option.mem_def] at hy
    obtain ⟨cs', hc⟩ := tr_blk h.tr _ hy; exact h.blk.ne_ hc (by decide) rfl
  have hglt := h.blk.lt
  have hbu : BU (w5.setCell ⟨g, 10, none⟩ v') g d { Q with tr := v' } { s with tl := s.tl ++ [a] } := by
    refine ⟨(h.blk.kp k1 hgt).set_ 10 v', h.ram.kp k3 (off h.ram.1 (by decide) (by decide)) ?_, h.pg.kpN k3 nb ⟨off bp (by decide) (by decide), off b1 (by decide) (by decide), off b2 (by decide) (by decide), off b3 (by decide) (by decide)⟩, h.rom.kpN k3 nb, ?_, h.ok⟩
    · intro b e hy
      obtain ⟨es, k, hh⟩ := h.ram.map_at b e
      simp only [List.mem_cons, Option.mem_toList, Option.mem_def] at hy
      rcases hy with rfl | e2
      · exact not_map h.blk hh
      · obtain ⟨cs', hc⟩ := tr_blk h.tr _ e2; exact not_map hc hh
    · show (w5.setCell ⟨g, 10, none⟩ v').ownsRow 0 62 5 v' (s.tl ++ [a]).length (accL (s.tl ++ [a]))
      rw [accL_snoc, List.length_append]
      refine own_kpL own k2 fun b e hy => ?_
      obtain rfl : b = g := by simpa using hy
      rcases fr with fr | fr
      · rw [fr] at e; exact hgt (by simp [e])
      · rw [fr] at e; injection e with e; omega
  have hK : Kp (bL g Q) w (w5.setCell ⟨g, 10, none⟩ v') := k3.mono (fun y hy => mem_bL.2 (by
    simp only [List.mem_cons, Option.mem_toList, Option.mem_def] at hy
    rcases hy with hy | hy <;> simp [hy]))
  refine ⟨⟨_, rfl, hbu, hK, fun y hy => ?_, rfl, rfl, rfl⟩, k1.mono (fun y hy => mem_bL.2 (by simp only [Option.mem_toList, Option.mem_def] at hy; simp [hy]))⟩
  rcases mem_bL.1 hy with e | e | e | e | e | e | e | e
  · exact .inl (mem_bL.2 (.inl e))
  · exact .inl (mem_bL.2 (.inr (.inl e)))
  · exact .inl (mem_bL.2 (.inr (.inr (.inl e))))
  · exact .inl (mem_bL.2 (.inr (.inr (.inr (.inl e)))))
  · exact .inl (mem_bL.2 (.inr (.inr (.inr (.inr (.inl e))))))
  · exact .inl (mem_bL.2 (.inr (.inr (.inr (.inr (.inr (.inl e)))))))
  · exact .inl (mem_bL.2 (.inr (.inr (.inr (.inr (.inr (.inr (.inl e))))))))
  · have e : v'.ownBlock = some y := e
    rcases fr with fr | fr
    · rw [fr] at e; exact .inl (mem_bL.2 (.inr (.inr (.inr (.inr (.inr (.inr (.inr (e)))))))))
    · right; rw [fr] at e; injection e with e; omega
theorem BU.told_cell (h : BU w g d Q s) {C : Obj} {w5 : World} (gb : (w.alloc C).grownBy w5 Q.tr.ownBlock) : w5.cell? ⟨g, 10, none⟩ = some Q.tr ∧ w5.frozen? ⟨g, 10, none⟩ = false := by
  have hb : Blk w5 g 126 (buC Q s) := Blk.grown (Blk.alloc h.blk C) gb (fun e => by
    obtain ⟨cs', hc⟩ := tr_blk h.tr g e.symm; exact h.blk.ne_ hc (by decide) rfl)
  exact ⟨hb.cell 10, hb.frozen 10⟩
theorem BuR.after {v : Value} {w w1 w' : World} {e : Ending} {g : Nat} {d : Hd} {Q : Bp} {s : Bs} (K : Kp (bL g Q) w w1) (h : BuR v g d Q s w1 e w') : BuR v g d Q s w e w' := by
  obtain ⟨Q', rfl, hb, k, fr, e1, e2, e3⟩ := h
  refine ⟨Q', rfl, hb, K.trans k (fun y hy => .inl hy), fun y hy => ?_, e1, e2, e3⟩
  rcases fr y hy with h1 | h1
  · exact .inl h1
  · exact .inr (Nat.le_trans K.size h1)
set_option maxHeartbeats 8000000 in
theorem btell_any (h : BU w g d Q s) (hn : s.tl.length ≤ 1000000) (st a kd : Int) (wr : Bool) (dt : Int) (a0 : 0 ≤ a) (a1 : a ≤ 4294967295) :
    Calls Tryz.prog 64 #[.pointer (some ⟨g, 0, none⟩), .agg #[.int .i64 st, .int .u32 a, .int .u8 kd, .bool wr, .int .u8 dt]] w (BuR (.tuple #[]) g d Q { s with tl := s.tl ++ [⟨st, a % 2097152, kd, wr, dt⟩] } w) := by
  have hx1 : Blk (w.alloc (.cells #[.int .i64 st, .int .u32 a, .int .u8 kd, .bool wr, .int .u8 dt] 62)) w.heap.size 62 #[.int .i64 st, .int .u32 a, .int .u8 kd, .bool wr, .int .u8 dt] := Blk.new_ rfl
  have h1 : BU (w.alloc (.cells #[.int .i64 st, .int .u32 a, .int .u8 kd, .bool wr, .int .u8 dt] 62)) g d Q s := h.kp0 ((Kp.refl _ _).alloc _)
  have k1 : Kp [] w (w.alloc (.cells #[.int .i64 st, .int .u32 a, .int .u8 kd, .bool wr, .int .u8 dt] 62)) := (Kp.refl _ _).alloc _
  have hlt := h.lt
  go_enter Tryz.func64, Tryz.ntmps64
  go_upto_region 1 with fail
  generalize hbx : w.heap.size = bx at *
  generalize World.alloc w _ = w1 at *
  have H1 := Lib.hid h1
  have K1 := Lib.hid k1
  have HX1 := Lib.hid hx1
  have HLT := Lib.hid hlt
  have e1 := hx1.cell 1
  have z1 := hx1.frozen 1
  clear h1 k1 hx1 h hlt
  have hA : bankI a * 8192 + offI a % 8192 = a % 2097152 := by unfold bankI offI; omega
  have hbk : 0 ≤ bankI a ∧ bankI a ≤ 255 := by unfold bankI; omega
  have hof : 0 ≤ offI a ∧ offI a ≤ 65535 := by unfold offI; omega
  go_region_with (first | (go_at_call 111; refine (bank_any a _ a0 a1).mono ?_; rintro e w' ⟨rfl, rfl⟩) | (go_at_call 73; refine (off_any a _ a0 a1).mono ?_; rintro e w' ⟨rfl, rfl⟩) | (go_at_call 113; refine (addr_v hbk.1 hbk.2 hof.1 hof.2 hA).mono ?_; rintro e w' ⟨rfl, rfl⟩))
  all_goals
    go_wp2_with fail
    go_upto_region 2 with fail
    have kA : Kp [bx] w1 ((w1.setCell ⟨bx, 1, none⟩ (.int .u32 (a % 2097152))).drew) := ((Kp.refl _ _).setCell (p := ⟨bx, 1, none⟩) (.inl (by simp)) _).drew
    have hbxn : bx ∉ bL g Q := fun hy => by have := HLT.out bx hy; omega
    have nbx : ∀ y ∈ [bx], NB w1 y := fun y hy => (List.mem_singleton.1 hy) ▸ NB.of HX1.out (by decide) (by decide)
    have h2 : BU ((w1.setCell ⟨bx, 1, none⟩ (.int .u32 (a % 2097152))).drew) g d Q s := H1.out.kp kA nbx (fun y hy e => hbxn ((List.mem_singleton.1 e) ▸ hy))
    have x2 : Blk ((w1.setCell ⟨bx, 1, none⟩ (.int .u32 (a % 2097152))).drew) bx 62 (accC ⟨st, a % 2097152, kd, wr, dt⟩).toArray := HX1.out.set_ 1 _
    have k2 : Kp (bL g Q) w ((w1.setCell ⟨bx, 1, none⟩ (.int .u32 (a % 2097152))).drew) := (K1.out.mono (by simp)).trans kA (fun y hy => .inr (by rw [List.mem_singleton.1 hy]; exact Nat.le_of_eq hbx))
    clear kA e1 z1
    generalize (World.setCell w1 _ _).drew = w2 at *
    have X2 := Lib.hid x2
    have H2 := Lib.hid h2
    have K2 := Lib.hid k2
    have HBN := Lib.hid hbxn
    clear x2 h2 k2 hbxn nbx H1 K1 HX1 HLT
    refine rg_begin (S := fun w' => w'.cell? ⟨bx, 0, none⟩ = some (.int .i64 st) ∧ w'.cell? ⟨bx, 1, none⟩ = some (.int .u32 (a % 2097152)) ∧ w'.cell? ⟨bx, 2, none⟩ = some (.int .u8 kd) ∧ w'.cell? ⟨bx, 3, none⟩ = some (.bool wr) ∧ w'.cell? ⟨bx, 4, none⟩ = some (.int .u8 dt)) 11 #[false, false, false, false, false, false, false, false, false, false, false] (by kernel_rfl) (by kernel_rfl) (by kernel_rfl) ?_ (fun hHeld => ?_)
    · exact ⟨X2.out.cell 0, X2.out.cell 1, X2.out.cell 2, X2.out.cell 3, X2.out.cell 4⟩
    have XD := Lib.hid (X2.out.kp (Kp.refl [] _).drew (by simp))
    have HD := Lib.hid (H2.out.kp0 (Kp.refl [] _).drew)
    have KD := Lib.hid (K2.out.drew)
    clear X2 H2 K2
    generalize World.drew w2 = wD at *
    refine rgt 0 (some 12) (v := ?_) rfl ?_ ?_
    rotate_left 1
    · (intro wS hSw; (try dsimp only at hSw); go_simp; try with_reducible rfl)
    refine rgt 1 (some 13) (v := ?_) rfl ?_ ?_
    rotate_left 1
    · (intro wS hSw; (try dsimp only at hSw); go_simp; try with_reducible rfl)
    refine rgt 2 (some 14) (v := ?_) rfl ?_ ?_
    rotate_left 1
    · (intro wS hSw; (try dsimp only at hSw); go_simp; try with_reducible rfl)
    refine rgt 3 (some 15) (v := ?_) rfl ?_ ?_
    rotate_left 1
    · (intro wS hSw; (try dsimp only at hSw); go_simp; try with_reducible rfl)
    refine rgt 5 (some 17) (v := ?_) rfl ?_ ?_
    rotate_left 1
    · (intro wS hSw; (try dsimp only at hSw); go_simp; try with_reducible rfl)
    try simp only [Act.put, List.setIfInBounds_toArray, List.set_cons_zero, List.set_cons_succ]
    obtain ⟨v', w5, hrun, own, gb, fr⟩ := more_acc (ty := 50) HD.out.tr ⟨st, a % 2097152, kd, wr, dt⟩ hn
    obtain ⟨gt, ct, rfl⟩ := ownsRow_succ own
    have BT := Lib.hid (HD.out.told ⟨st, a % 2097152, kd, wr, dt⟩ own gb fr)
    have RUN := Lib.hid hrun
    have X4 := Lib.hid (XD.out.alloc (.cells (accC ⟨st, a % 2097152, kd, wr, dt⟩).toArray 62))
    have X5 := Lib.hid (X4.out.grown gb (fun e => HBN.out (by rw [mem_bL]; exact .inr (.inr (.inr (.inr (.inr (.inr (.inr e.symm)))))))))
    have X6 := Lib.hid (X5.out.far (p := ⟨g, 10, none⟩) (fun e => HBN.out (by rw [mem_bL]; exact .inl e)) (.slice (some ⟨gt, 0, none⟩) (s.tl.length + 1) ct))
    have c10 := HD.out.cells.2.2.2.2.2
    have c10a : (wD.alloc (.cells #[.int .i64 st, .int .u32 (a % 2097152), .int .u8 kd, .bool wr, .int .u8 dt] 62)).cell? ⟨g, 10, none⟩ = some Q.tr := (HD.out.kp0 ((Kp.refl _ _).alloc _)).cells.2.2.2.2.2
    obtain ⟨c10b, z10⟩ := HD.out.told_cell gb
    clear hrun own gb fr
    refine rg_of (rs := [4, 6]) (fuel := 5) (by kernel_rfl) rfl ?_
    refine rg_step (i := 4) (l := #[true, true, true, true, true, true, false, false, false, false, false]) rfl (by kernel_rfl) (by kernel_rfl) ?_ ?_
    · intro K hK
      go_simp
      skip
      first | (refine hK.out _ _ ?_ (fun hHeld => ?_)) | (go_wp2_with fail; refine hK.out _ _ ?_ (fun hHeld => ?_))
      · (try dsimp only); exact ⟨XD.out.cell 0, XD.out.cell 1, XD.out.cell 2, XD.out.cell 3, XD.out.cell 4⟩
      clear hK K
      try simp only [Act.put, List.setIfInBounds_toArray, List.set_cons_zero, List.set_cons_succ]
      refine rg_next (i := 6) (l := #[true, true, true, true, true, true, true, false, false, false, false]) (fuel := 4) (by kernel_rfl) rfl (by kernel_rfl) (by kernel_rfl) (fun K hK => ?_)
      go_simp
      skip
      first | (refine hK.out _ _ ?_ (fun hHeld => ?_)) | (go_wp2_with fail; refine hK.out _ _ ?_ (fun hHeld => ?_))
      · (try dsimp only); exact ⟨X4.out.cell 0, X4.out.cell 1, X4.out.cell 2, X4.out.cell 3, X4.out.cell 4⟩
      clear hK K
      try simp only [Act.put, List.setIfInBounds_toArray, List.set_cons_zero, List.set_cons_succ]
      refine rg_next (i := 7) (l := #[true, true, true, true, true, true, true, true, false, false, false]) (fuel := 3) (by kernel_rfl) rfl (by kernel_rfl) (by kernel_rfl) (fun K hK => ?_)
      refine wp_append_anyB (.tmp 16) (.tmp 18) 50 rfl rfl rfl RUN.out ?_
      refine hK.out _ _ ?_ (fun hHeld => ?_)
      · (try dsimp only); exact ⟨X5.out.cell 0, X5.out.cell 1, X5.out.cell 2, X5.out.cell 3, X5.out.cell 4⟩
      clear hK K
      refine rgt 8 (some 20) (v := ?_) rfl ?_ ?_
      rotate_left 1
      · (intro wS hSw; (try dsimp only at hSw); go_simp; try with_reducible rfl)
      refine rgt 9 (some 21) (v := ?_) rfl ?_ ?_
      rotate_left 1
      · (intro wS hSw; (try dsimp only at hSw); go_simp; try with_reducible rfl)
      try simp only [Act.put, List.setIfInBounds_toArray, List.set_cons_zero, List.set_cons_succ]
      refine rg_next (i := 10) (l := #[true, true, true, true, true, true, true, true, true, true, true]) (fuel := 0) (by kernel_rfl) rfl (by kernel_rfl) (by kernel_rfl) (fun K hK => ?_)
      go_simp
      skip
      first | (refine hK.out _ _ ?_ (fun hHeld => ?_)) | (go_wp2_with fail; refine hK.out _ _ ?_ (fun hHeld => ?_))
      · (try dsimp only); exact ⟨X6.out.cell 0, X6.out.cell 1, X6.out.cell 2, X6.out.cell 3, X6.out.cell 4⟩
      clear hK K
      try simp only [Act.put, List.setIfInBounds_toArray, List.set_cons_zero, List.set_cons_succ]
      refine wpAnyH_done (by kernel_rfl) ?_ _
      go_wp2_with fail
      go_end0
      exact BuR.after KD.out BT.out.1
    refine rg_step (i := 6) (l := #[true, true, true, true, false, true, true, false, false, false, false]) rfl (by kernel_rfl) (by kernel_rfl) ?_ ?_
    · intro K hK
      go_simp
      skip
      first | (refine hK.out _ _ ?_ (fun hHeld => ?_)) | (go_wp2_with fail; refine hK.out _ _ ?_ (fun hHeld => ?_))
      · (try dsimp only); exact ⟨X4.out.cell 0, X4.out.cell 1, X4.out.cell 2, X4.out.cell 3, X4.out.cell 4⟩
      clear hK K
      try simp only [Act.put, List.setIfInBounds_toArray, List.set_cons_zero, List.set_cons_succ]
      refine rg_next (i := 4) (l := #[true, true, true, true, true, true, true, false, false, false, false]) (fuel := 4) (by kernel_rfl) rfl (by kernel_rfl) (by kernel_rfl) (fun K hK => ?_)
      go_simp
      skip
      first | (refine hK.out _ _ ?_ (fun hHeld => ?_)) | (go_wp2_with fail; refine hK.out _ _ ?_ (fun hHeld => ?_))
      · (try dsimp only); exact ⟨X4.out.cell 0, X4.out.cell 1, X4.out.cell 2, X4.out.cell 3, X4.out.cell 4⟩
      clear hK K
      try simp only [Act.put, List.setIfInBounds_toArray, List.set_cons_zero, List.set_cons_succ]
      refine rg_next (i := 7) (l := #[true, true, true, true, true, true, true, true, false, false, false]) (fuel := 3) (by kernel_rfl) rfl (by kernel_rfl) (by kernel_rfl) (fun K hK => ?_)
      refine wp_append_anyB (.tmp 16) (.tmp 18) 50 rfl rfl rfl RUN.out ?_
      refine hK.out _ _ ?_ (fun hHeld => ?_)
      · (try dsimp only); exact ⟨X5.out.cell 0, X5.out.cell 1, X5.out.cell 2, X5.out.cell 3, X5.out.cell 4⟩
      clear hK K
      refine rgt 8 (some 20) (v := ?_) rfl ?_ ?_
      rotate_left 1
      · (intro wS hSw; (try dsimp only at hSw); go_simp; try with_reducible rfl)
      refine rgt 9 (some 21) (v := ?_) rfl ?_ ?_
      rotate_left 1
      · (intro wS hSw; (try dsimp only at hSw); go_simp; try with_reducible rfl)
      try simp only [Act.put, List.setIfInBounds_toArray, List.set_cons_zero, List.set_cons_succ]
      refine rg_next (i := 10) (l := #[true, true, true, true, true, true, true, true, true, true, true]) (fuel := 0) (by kernel_rfl) rfl (by kernel_rfl) (by kernel_rfl) (fun K hK => ?_)
      go_simp
      skip
      first | (refine hK.out _ _ ?_ (fun hHeld => ?_)) | (go_wp2_with fail; refine hK.out _ _ ?_ (fun hHeld => ?_))
      · (try dsimp only); exact ⟨X6.out.cell 0, X6.out.cell 1, X6.out.cell 2, X6.out.cell 3, X6.out.cell 4⟩
      clear hK K
      try simp only [Act.put, List.setIfInBounds_toArray, List.set_cons_zero, List.set_cons_succ]
      refine wpAnyH_done (by kernel_rfl) ?_ _
      go_wp2_with fail
      go_end0
      exact BuR.after KD.out BT.out.1
    exact AllReadyH.nil
end
end Go.Proofs.YtleofglnlfpoeaaGreat
namespace Go.Proofs.YtleofglnlfpoeaaGreat
open Go.RowKit
set_option linter.unusedVariables false
set_option linter.unusedSimpArgs false
set_option maxRecDepth 100000
section
variable {w w1 w' : World} {g : Nat} {d : Hd} {Q Q1 : Bp} {s s1 : Bs}
/-- Calls one behind the other. -/
theorem BuR.then_ {v : Value} {e : Ending} (k1 : Kp (bL g Q) w w1) (f1 : ∀ y ∈ bL g Q1, y ∈ bL g Q ∨ w.heap.size ≤ y) (q : Q1.p = Q.p ∧ Q1.b = Q.b ∧ Q1.m = Q.m) (h : BuR v g d Q1 s w1 e w') : BuR v g d Q s w e w' := by
  obtain ⟨Q', rfl, hb, k, fr, e1, e2, e3⟩ := h
  refine ⟨Q', rfl, hb, k1.trans k f1, fun y hy => ?_, e1.trans q.1, e2.trans q.2.1, e3.trans q.2.2⟩
  rcases fr y hy with h1 | h1
  · exact f1 y h1
  · exact .inr (Nat.le_trans k1.size h1)
theorem BuR.ret {v v' : Value} (h : BuR v g d Q s w (.returned v) w') : BuR v' g d Q s w (.returned v') w' := by
  obtain ⟨Q', _, hb, k, fr, e⟩ := h
  exact ⟨Q', rfl, hb, k, fr, e⟩
theorem Hp.lim_to {x : Hp} {t : Int} {n : Nat} (h : x.lim n) : (x.to d t).lim n := by
  unfold Hp.to
  split
  · exact h
  · exact h
/-- What an access that reads answers, and how a bus is behind it. -/
def Bs.rdV (s : Bs) (d : Hd) (a : Int) : Int := (s.beg d a).an d a
def Bs.rdS (s : Bs) (d : Hd) (a kd : Int) : Bs := { (s.beg d a).anS d a with tl := s.tl ++ [⟨s.now, a % 2097152, kd, false, s.rdV d a⟩] }
def Bs.wrS (s : Bs) (d : Hd) (a v kd : Int) : Bs := { (s.beg d a).chS a v with tl := s.tl ++ [⟨s.now, a % 2097152, kd, true, v⟩] }
theorem Bs.anS_tl (s : Bs) (d : Hd) (a : Int) : (s.anS d a).tl = s.tl := by unfold Bs.anS; split <;> rfl
theorem Bs.chS_tl (s : Bs) (a v : Int) : (s.chS a v).tl = s.tl := by unfold Bs.chS; (repeat' split) <;> rfl
theorem Bs.beg_tl (s : Bs) (d : Hd) (a : Int) : (s.beg d a).tl = s.tl := rfl
theorem bread_none (h : BU w g d Q s) (a kd : Int) (h0 : s.left = 0) : Calls Tryz.prog 17 #[.pointer (some ⟨g, 0, none⟩), .int .u32 a, .int .u8 kd] w (BuR (.int .u8 255) g d Q { s with over := true } w) := by
  have BG := Lib.hid (bbegin_none h a h0)
  clear h
  go_enter Tryz.func17, Tryz.ntmps17
  go_wp2_with fail
  refine BG.out.mono ?_
  rintro e w1 ⟨Q1, rfl, h1, k1, f1, q1⟩
  have R := Lib.hid (show BuR (.int .u8 255) g d Q { s with over := true } w (.returned (.int .u8 255)) w1 from ⟨Q1, rfl, h1, k1, f1, q1⟩)
  clear h1 k1 f1 q1
  go_wp2_with fail
  go_ret
  exact R.out
set_option maxHeartbeats 2000000 in
theorem bread_some (h : BU w g d Q s) (a kd : Int) (a0 : 0 ≤ a) (a1 : a ≤ 4294967295) (h0 : 0 < s.left) (hn : s.now ≤ 1000000000000) (hc : s.cyc ≤ 1000000000000) (hl : s.x.lim 1000000) (ht : s.tl.length ≤ 1000000) :
    Calls Tryz.prog 17 #[.pointer (some ⟨g, 0, none⟩), .int .u32 a, .int .u8 kd] w (BuR (.int .u8 (s.rdV d a)) g d Q (s.rdS d a kd) w) := by
  have BG := Lib.hid (bbegin_some h a a0 a1 h0 hn hc)
  have HL : Hid ((s.beg d a).x.lim 1000000) := Lib.hid (Hp.lim_to hl)
  clear h h0 hn hc hl
  obtain ⟨v, hv⟩ : ∃ v, s.rdV d a = v := ⟨_, rfl⟩
  have HV : Hid ((s.beg d a).an d a = v) := Lib.hid hv
  have hs : s.rdS d a kd = { (s.beg d a).anS d a with tl := s.tl ++ [⟨s.now, a % 2097152, kd, false, v⟩] } := by unfold Bs.rdS; rw [hv]
  rw [hv, hs]
  clear hv hs
  go_enter Tryz.func17, Tryz.ntmps17
  go_wp2_with fail
  refine BG.out.mono ?_
  rintro e w1 ⟨Q1, rfl, h1, k1, f1, q1⟩
  have H1 := Lib.hid h1
  have K1 := Lib.hid k1
  have F1 := Lib.hid f1
  have E1 := Lib.hid q1
  clear h1 k1 f1 q1
  go_wp2_with fail
  refine (banswer_any H1.out HL.out a a0 a1).mono ?_
  rw [HV.out]
  rintro e w2 ⟨Q2, rfl, h2, k2, f2, q2⟩
  have H2 := Lib.hid h2
  have K2 := Lib.hid k2
  have F2 := Lib.hid f2
  have E2 := Lib.hid q2
  have HT : ((s.beg d a).anS d a).tl.length ≤ 1000000 := by rw [Bs.anS_tl, Bs.beg_tl]; exact ht
  clear h2 k2 f2 q2
  go_wp2_with fail
  refine (btell_any H2.out HT s.now a kd false v a0 a1).mono ?_
  rw [Bs.anS_tl, Bs.beg_tl]
  rintro e w3 ⟨Q3, rfl, h3, k3, f3, q3⟩
  have R := Lib.hid (BuR.then_ K1.out F1.out E1.out (BuR.then_ K2.out F2.out E2.out (show BuR (.int .u8 v) g d Q2 _ w2 (.returned (.int .u8 v)) w3 from ⟨Q3, rfl, h3, k3, f3, q3⟩)))
  clear h3 k3 f3 q3 H1 K1 F1 E1 H2 K2 F2 E2
  go_wp2_with fail
  go_ret
  exact R.out
theorem bwrite_none (h : BU w g d Q s) (a v kd : Int) (h0 : s.left = 0) : Calls Tryz.prog 18 #[.pointer (some ⟨g, 0, none⟩), .int .u32 a, .int .u8 v, .int .u8 kd] w (BuR (.tuple #[]) g d Q { s with over := true } w) := by
  have BG := Lib.hid (bbegin_none h a h0)
  clear h
  go_enter Tryz.func18, Tryz.ntmps18
  go_wp2_with fail
  refine BG.out.mono ?_
  rintro e w1 ⟨Q1, rfl, h1, k1, f1, q1⟩
  have R := Lib.hid (show BuR (.tuple #[]) g d Q { s with over := true } w (.returned (.tuple #[])) w1 from ⟨Q1, rfl, h1, k1, f1, q1⟩)
  clear h1 k1 f1 q1
  go_wp2_with fail
  refine bodyPost_ret (results_none rfl _ _ _) rfl ?_
  exact R.out
set_option maxHeartbeats 2000000 in
theorem bwrite_some (h : BU w g d Q s) (a v kd : Int) (a0 : 0 ≤ a) (a1 : a ≤ 4294967295) (v0 : 0 ≤ v) (v1 : v ≤ 255) (h0 : 0 < s.left) (hn : s.now ≤ 1000000000000) (hc : s.cyc ≤ 1000000000000) (hl : s.x.lim 1000000) (ht : s.tl.length ≤ 1000000) :
    Calls Tryz.prog 18 #[.pointer (some ⟨g, 0, none⟩), .int .u32 a, .int .u8 v, .int .u8 kd] w (BuR (.tuple #[]) g d Q (s.wrS d a v kd) w) := by
  have BG := Lib.hid (bbegin_some h a a0 a1 h0 hn hc)
  have HL : Hid ((s.beg d a).x.lim 1000000) := Lib.hid (Hp.lim_to hl)
  clear h h0 hn hc hl
  unfold Bs.wrS
  go_enter Tryz.func18, Tryz.ntmps18
  go_wp2_with fail
  refine BG.out.mono ?_
  rintro e w1 ⟨Q1, rfl, h1, k1, f1, q1⟩
  have H1 := Lib.hid h1
  have K1 := Lib.hid k1
  have F1 := Lib.hid f1
  have E1 := Lib.hid q1
  clear h1 k1 f1 q1
  go_wp2_with fail
  refine (bchange_any H1.out HL.out a v a0 a1 v0 v1).mono ?_
  rintro e w2 ⟨Q2, rfl, h2, k2, f2, q2⟩
  have H2 := Lib.hid h2
  have K2 := Lib.hid k2
  have F2 := Lib.hid f2
  have E2 := Lib.hid q2
  have HT : ((s.beg d a).chS a v).tl.length ≤ 1000000 := by rw [Bs.chS_tl, Bs.beg_tl]; exact ht
  clear h2 k2 f2 q2
  go_wp2_with fail
  refine (btell_any H2.out HT s.now a kd true v a0 a1).mono ?_
  rw [Bs.chS_tl, Bs.beg_tl]
  rintro e w3 ⟨Q3, rfl, h3, k3, f3, q3⟩
  have R := Lib.hid (BuR.then_ K1.out F1.out E1.out (BuR.then_ K2.out F2.out E2.out (show BuR (.tuple #[]) g d Q2 _ w2 (.returned (.tuple #[])) w3 from ⟨Q3, rfl, h3, k3, f3, q3⟩)))
  clear h3 k3 f3 q3 H1 K1 F1 E1 H2 K2 F2 E2
  go_wp2_with fail
  first | go_end0 | refine bodyPost_ret (results_none rfl _ _ _) rfl ?_
  exact R.out
end
section
variable {w : World} {g : Nat} {d : Hd} {Q : Bp} {s : Bs}
theorem bleft_any (h : BU w g d Q s) : Calls Tryz.prog 23 #[.pointer (some ⟨g, 0, none⟩)] w fun e w' => e = .returned (.int .i64 s.left) ∧ w = w' := by
  have c8 := h.cells.2.2.2.1
  have WK := Lib.hid (bworks_any h)
  clear h
  go_enter Tryz.func23, Tryz.ntmps23
  go_wp2_with fail
  refine WK.out.mono ?_
  rintro e w' ⟨rfl, rfl⟩
  go_wp2_with fail
  go_ret
  exact ⟨rfl, rfl⟩
theorem bover_any (h : BU w g d Q s) : Calls Tryz.prog 25 #[.pointer (some ⟨g, 0, none⟩)] w fun e w' => e = .returned (.bool s.over) ∧ w = w' := by
  have c9 := h.cells.2.2.2.2.1
  clear h
  go_enter Tryz.func25, Tryz.ntmps25
  go_wp2
  go_ret
  exact ⟨rfl, rfl⟩
theorem bnow_any (h : BU w g d Q s) : Calls Tryz.prog 22 #[.pointer (some ⟨g, 0, none⟩)] w fun e w' => e = .returned (.int .i64 s.now) ∧ w = w' := by
  have H := Lib.hid h
  clear h
  go_enter Tryz.func22, Tryz.ntmps22
  go_wp2_with fail
  refine (bknow_any H.out.blk).mono ?_
  rintro e w' ⟨rfl, rfl⟩
  go_wp2_with fail
  go_ret
  exact ⟨rfl, rfl⟩
theorem bfast_any (h : BU w g d Q s) : Calls Tryz.prog 27 #[.pointer (some ⟨g, 0, none⟩)] w fun e w' => e = .returned (.bool s.fast) ∧ w = w' := by
  have H := Lib.hid h
  clear h
  go_enter Tryz.func27, Tryz.ntmps27
  go_wp2_with fail
  refine (bkfast_any H.out.blk).mono ?_
  rintro e w' ⟨rfl, rfl⟩
  go_wp2_with fail
  go_ret
  exact ⟨rfl, rfl⟩
theorem bask_any (h : BU w g d Q s) (x : Bool) : Calls Tryz.prog 19 #[.pointer (some ⟨g, 0, none⟩), .bool x] w (BuR (.tuple #[]) g d Q { s with asked := true, next := x } w) := by
  have WK := Lib.hid (bworks_any h)
  have H := Lib.hid h
  clear h
  go_enter Tryz.func19, Tryz.ntmps19
  go_wp2_with fail
  refine WK.out.mono ?_
  rintro e w' ⟨rfl, rfl⟩
  go_wp2_with fail
  refine (bkask_any x H.out.blk).mono ?_
  rintro e w' ⟨rfl, hb, gb⟩
  have k := Kp.of_gb gb
  have R := Lib.hid (BuR.mk0 (v := .tuple #[]) (H.out.own (s' := { s with asked := true, next := x }) k hb rfl rfl ⟨rfl, rfl, rfl⟩ rfl H.out.ok) (k.mono (by simp [bL])))
  clear hb gb k
  go_wp2_with fail
  first | go_end0 | refine bodyPost_ret (results_none rfl _ _ _) rfl ?_
  exact R.out
def Bs.tn (s : Bs) : Bs := if s.asked then { s with fast := s.next, asked := false, next := false } else s
/-- A bus whose clock asks for nothing has no speed kept. -/
def Bs.tidy (s : Bs) : Prop := s.asked = false → s.next = false
theorem bturn_any (h : BU w g d Q s) (ht : s.tidy) : Calls Tryz.prog 20 #[.pointer (some ⟨g, 0, none⟩)] w (BuR (.tuple #[]) g d Q s.tn w) := by
  have WK := Lib.hid (bworks_any h)
  have H := Lib.hid h
  cases ha : s.asked with
  | false =>
    have hn := ht ha
    have es : s.tn = s := by unfold Bs.tn; rw [ha]; rfl
    rw [es]
    have hbb : Blk w g 126 (buK (buR Q s) s.now s.cyc s.fast false false) := by have := h.blk; unfold buC at this; rwa [ha, hn] at this
    have HBB := Lib.hid hbb
    have EA := Lib.hid ha
    have EN := Lib.hid hn
    clear h es ha hn hbb
    go_enter Tryz.func20, Tryz.ntmps20
    go_wp2_with fail
    refine WK.out.mono ?_
    rintro e w' ⟨rfl, rfl⟩
    go_wp2_with fail
    refine (bkturn_no HBB.out).mono ?_
    rintro e w' ⟨rfl, hb, gb⟩
    have k := Kp.of_gb gb
    have R := Lib.hid (BuR.mk0 (v := .tuple #[]) (H.out.own (s' := s) k (by unfold buC; rw [EA.out, EN.out]; exact hb) rfl rfl ⟨rfl, rfl, rfl⟩ rfl H.out.ok) (k.mono (by simp [bL])))
    clear hb gb k
    go_wp2_with fail
    first | go_end0 | refine bodyPost_ret (results_none rfl _ _ _) rfl ?_
    exact R.out
  | true =>
    have es : s.tn = { s with fast := s.next, asked := false, next := false } := by unfold Bs.tn; rw [ha]; rfl
    rw [es]
    have hbb : Blk w g 126 (buK (buR Q s) s.now s.cyc s.fast true s.next) := by have := h.blk; unfold buC at this; rwa [ha] at this
    have HBB := Lib.hid hbb
    clear h es ha hbb
    go_enter Tryz.func20, Tryz.ntmps20
    go_wp2_with fail
    refine WK.out.mono ?_
    rintro e w' ⟨rfl, rfl⟩
    go_wp2_with fail
    refine (bkturn_yes HBB.out).mono ?_
    rintro e w' ⟨rfl, hb, gb⟩
    have k := Kp.of_gb gb
    have R := Lib.hid (BuR.mk0 (v := .tuple #[]) (H.out.own (s' := { s with fast := s.next, asked := false, next := false }) k hb rfl rfl ⟨rfl, rfl, rfl⟩ rfl H.out.ok) (k.mono (by simp [bL])))
    clear hb gb k
    go_wp2_with fail
    first | go_end0 | refine bodyPost_ret (results_none rfl _ _ _) rfl ?_
    exact R.out
end
end Go.Proofs.YtleofglnlfpoeaaGreat
namespace Go.Proofs.YtleofglnlfpoeaaGreat
open Go.RowKit
set_option linter.unusedVariables false
set_option linter.unusedSimpArgs false
set_option maxRecDepth 100000
def rpC (A : Option Addr) (n c t : Nat) (s : Pt) : Array Value := #[.slice A n c, .int .i64 t, .int .u8 s.l, .int .i64 s.p]
/-- In block r there is the reference's port, over the slice of bytes that came in. -/
def RP (w : World) (r : Nat) (A : Option Addr) (n c t : Nat) (s : Pt) : Prop := Blk w r 159 (rpC A n c t s) ∧ s.ok
section
variable {w w' : World} {r n c t : Nat} {A : Option Addr} {z : Nat → Int} {s : Pt}
theorem RP.kp {L : List Nat} (h : RP w r A n c t s) (k : Kp L w w') (hL : r ∉ L) : RP w' r A n c t s := ⟨h.1.kp k hL, h.2⟩
theorem RP.keep {m : Nat} (h : RP w r A n c t s) (k : Below m w w') (hm : r < m) : RP w' r A n c t s := ⟨h.1.below k hm, h.2⟩
theorem RP.lt (h : RP w r A n c t s) : r < w.heap.size := h.1.lt
theorem RP.cells (h : RP w r A n c t s) : w.cell? ⟨r, 0, none⟩ = some (.slice A n c) ∧ w.cell? ⟨r, 1, none⟩ = some (.int .i64 t) ∧ w.cell? ⟨r, 2, none⟩ = some (.int .u8 s.l) ∧ w.cell? ⟨r, 3, none⟩ = some (.int .i64 s.p) :=
  ⟨h.1.cell 0, h.1.cell 1, h.1.cell 2, h.1.cell 3⟩
theorem RP.put {x : Value} {k t' : Nat} {s' : Pt} (h : RP w r A n c t s) (e : (rpC A n c t s).setIfInBounds k x = rpC A n c t' s') (hs : s'.ok) : RP (w.setCell ⟨r, k, none⟩ x) r A n c t' s' ∧ Kp [r] w (w.setCell ⟨r, k, none⟩ x) := by
  refine ⟨⟨?_, hs⟩, (Kp.refl _ _).setCell (.inl (by simp)) _⟩
  rw [← e]
  exact h.1.set_ k x
end
def RpR (v : Value) (r : Nat) (A : Option Addr) (n c t : Nat) (s : Pt) (w : World) (e : Ending) (w' : World) : Prop := e = .returned v ∧ RP w' r A n c t s ∧ Kp [r] w w'
def NewRPR (A : Option Addr) (n c : Nat) (w : World) (e : Ending) (w' : World) : Prop :=
  e = .returned (.pointer (some ⟨w.heap.size, 0, none⟩)) ∧ RP w' w.heap.size A n c 0 ⟨0, 0⟩ ∧ Below w.heap.size w w'
theorem rpnew_any (A : Option Addr) (n c : Nat) (w : World) : Calls Tryz.prog 39 #[.slice A n c] w (NewRPR A n c w) := by
  go_enter Tryz.func39, Tryz.ntmps39
  go_wp2
  go_ret
  exact ⟨rfl, ⟨Blk.new w _ _, by decide, by decide⟩, (Below.refl _ _).alloc (Nat.le_refl _) _⟩
section
variable {w : World} {r n c t : Nat} {A : Option Addr} {z : Nat → Int} {s : Pt}
set_option maxHeartbeats 2000000 in
theorem rppeek_any (c0 : w.cell? ⟨r, 0, none⟩ = some (.slice A n c)) (c1 : w.cell? ⟨r, 1, none⟩ = some (.int .i64 t)) (R : IRow w .u8 A n z) (hn : n ≤ 140737488355328) (ht : t ≤ 1000000000) :
    Calls Tryz.prog 172 #[.pointer (some ⟨r, 0, none⟩), .int .i64 0] w fun e w' => e = .returned (.int .u8 (peekI (n - t) (fun j => z (t + j)) 0)) ∧ Kp [] w w' := by
  by_cases h1 : t < n
  · rw [show ((0 : Int)) = ((0 : Nat) : Int) from rfl, peekI_yes _ _ 0 (by omega)]
    have h2 : ¬ ((n : Int) - t ≤ 0) := by omega
    have d2 : decide ((n : Int) - t ≤ 0) = false := decide_eq_false h2
    obtain ⟨ad, rfl, _, hc, _⟩ := R (t + 0) (by omega)
    have i0 : (0 : Int) ≤ (t : Int) := by omega
    have i1 : (t : Int) < n := by omega
    have e1 : ((t : Int)).toNat = t := by omega
    rw [Nat.add_zero] at hc
    show Calls Tryz.prog 172 #[.pointer (some ⟨r, 0, none⟩), .int .i64 0] w fun e w' => e = .returned (.int .u8 (z t)) ∧ Kp [] w w'
    clear R
    go_enter Tryz.func172, Tryz.ntmps172
    go_wp2_with fail
    go_quiet (fail)
    go_wp2
    go_quiet (fail)
    go_wp2
    go_ret
    exact ⟨rfl, by rw [World.drewN_drewN]; exact (Kp.refl _ _).drewN _⟩
  · rw [peekI_no _ _ 0 (by omega)]
    have h2 : (n : Int) - t ≤ 0 := by omega
    have d2 : decide ((n : Int) - t ≤ 0) = true := decide_eq_true h2
    clear R
    go_enter Tryz.func172, Tryz.ntmps172
    go_wp2_with fail
    go_quiet (fail)
    go_wp2
    go_ret
    exact ⟨rfl, (Kp.refl _ _).drewN _⟩
set_option maxHeartbeats 2000000 in
theorem rpnext_any (h : RP w r A n c t s) (R : IRow w .u8 A n z) (hn : n ≤ 140737488355328) (ht : t ≤ 1000000000) :
    Calls Tryz.prog 140 #[.pointer (some ⟨r, 0, none⟩)] w (RpR (.int .u8 (peekI (n - t) (fun j => z (t + j)) 0)) r A n c (t + 1) s w) := by
  have H := Lib.hid h
  have HR := Lib.hid R
  clear h R
  obtain ⟨b, hb⟩ : ∃ b, peekI (n - t) (fun j => z (t + j)) 0 = b := ⟨_, rfl⟩
  rw [hb]
  have HB := Lib.hid hb
  clear hb
  go_enter Tryz.func140, Tryz.ntmps140
  go_wp2_with fail
  refine (rppeek_any H.out.cells.1 H.out.cells.2.1 HR.out hn ht).mono ?_
  rw [HB.out]
  rintro e w1 ⟨rfl, k1⟩
  have H1 := Lib.hid (H.out.kp k1 (by simp))
  have c1 := H1.out.cells.2.1
  have f1 := H1.out.1.frozen 1
  go_wp2
  go_ret
  obtain ⟨p1, p2⟩ := H1.out.put (k := 1) (x := .int .i64 ((t + 1 : Nat) : Int)) (t' := t + 1) (s' := s) rfl H.out.2
  exact ⟨rfl, p1, (k1.mono (by simp)).trans p2 (by simp)⟩
theorem rpwrite_any (h : RP w r A n c t s) (b : Int) (b0 : 0 ≤ b) (b1 : b ≤ 255) :
    Calls Tryz.prog 147 #[.pointer (some ⟨r, 0, none⟩), .int .u8 b] w (RpR (.tuple #[]) r A n c t (s.wr b) w) := by
  obtain ⟨c0, c1, c2, c3⟩ := h.cells
  have f2 := h.1.frozen 2
  have f3 := h.1.frozen 3
  obtain ⟨k1, k2⟩ := h.2
  have hl3 : (b % 4).toNat ≤ 3 := by omega
  obtain ⟨p1, p2⟩ := h.put (k := 2) (x := .int .u8 ((b % 4).toNat : Int)) (t' := t) (s' := ⟨(b % 4).toNat, s.p⟩) rfl ⟨hl3, k2⟩
  have i1 : ((b % 4).toNat : Int) = b % 4 := by omega
  rw [i1] at p1 p2
  have P1 := Lib.hid p1
  have P2 := Lib.hid p2
  clear h p1 p2 c0 c1 i1
  by_cases h2 : 2 ≤ b % 4
  · have hw : s.wr b = ⟨(b % 4).toNat, 0⟩ := by unfold Pt.wr; rw [if_pos (by omega)]
    rw [hw]
    clear hw
    go_enter Tryz.func147, Tryz.ntmps147
    go_wp2_with fail
    first | go_end0 | refine bodyPost_ret (results_none rfl _ _ _) rfl ?_
    obtain ⟨q1, q2⟩ := P1.out.put (k := 3) (x := .int .i64 0) (t' := t) (s' := ⟨(b % 4).toNat, 0⟩) rfl ⟨hl3, by dsimp only; omega⟩
    exact ⟨rfl, q1, P2.out.trans q2 (by simp)⟩
  have j2 : ¬ 2 ≤ b % 4 := h2
  by_cases h1 : b % 4 = 1
  · have j1 : (b % 4 == 1) = true := by simpa using h1
    by_cases hl : s.l % 2 = 0
    · have jl : ((s.l : Int) % 2 == 0) = true := by
        have : (s.l : Int) % 2 = 0 := by omega
        simpa using this
      by_cases h5 : s.p < 5
      · have j5 : (s.p : Int) < 5 := by omega
        have hw : s.wr b = ⟨(b % 4).toNat, s.p + 1⟩ := by
          unfold Pt.wr
          rw [if_neg (by omega), if_pos (by omega)]
          congr 1
          omega
        rw [hw]
        clear hw h1
        go_enter Tryz.func147, Tryz.ntmps147
        go_wp2_with fail
        first | go_end0 | refine bodyPost_ret (results_none rfl _ _ _) rfl ?_
        obtain ⟨q1, q2⟩ := P1.out.put (k := 3) (x := .int .i64 ((s.p + 1 : Nat) : Int)) (t' := t) (s' := ⟨(b % 4).toNat, s.p + 1⟩) rfl ⟨hl3, by dsimp only; omega⟩
        exact ⟨rfl, q1, P2.out.trans q2 (by simp)⟩
      · have j5 : ¬ (s.p : Int) < 5 := by omega
        have hw : s.wr b = ⟨(b % 4).toNat, s.p⟩ := by
          unfold Pt.wr
          rw [if_neg (by omega), if_pos (by omega)]
          congr 1
          omega
        rw [hw]
        clear hw h1
        go_enter Tryz.func147, Tryz.ntmps147
        go_wp2_with fail
        first | go_end0 | refine bodyPost_ret (results_none rfl _ _ _) rfl ?_
        exact ⟨rfl, P1.out, P2.out⟩
    · have jl : ((s.l : Int) % 2 == 0) = false := by
        have : ¬ (s.l : Int) % 2 = 0 := by omega
        simpa using this
      have hw : s.wr b = ⟨(b % 4).toNat, s.p⟩ := by
        unfold Pt.wr
        rw [if_neg (by omega), if_neg (by omega)]
      rw [hw]
      clear hw h1
      go_enter Tryz.func147, Tryz.ntmps147
      go_wp2_with fail
      first | go_end0 | refine bodyPost_ret (results_none rfl _ _ _) rfl ?_
      exact ⟨rfl, P1.out, P2.out⟩
  · have j1 : (b % 4 == 1) = false := by simpa using h1
    have hw : s.wr b = ⟨(b % 4).toNat, s.p⟩ := by
      unfold Pt.wr
      rw [if_neg (by omega), if_neg (by omega)]
    rw [hw]
    clear hw
    go_enter Tryz.func147, Tryz.ntmps147
    go_wp2_with fail
    first | go_end0 | refine bodyPost_ret (results_none rfl _ _ _) rfl ?_
    exact ⟨rfl, P1.out, P2.out⟩
set_option maxHeartbeats 1000000 in
theorem rpread_any (h : RP w r A n c t s) (R : IRow w .u8 A n z) (hn : n ≤ 140737488355328) (ht : t ≤ 1000000000) (hb : 0 ≤ peekI (n - t) (fun j => z (t + j)) 0 ∧ peekI (n - t) (fun j => z (t + j)) 0 ≤ 255) :
    Calls Tryz.prog 142 #[.pointer (some ⟨r, 0, none⟩)] w (RpR (.int .u8 (s.val (peekI (n - t) (fun j => z (t + j)) 0))) r A n c (if s.takes then t + 1 else t) s w) := by
  obtain ⟨c0, c1, c2, c3⟩ := h.cells
  obtain ⟨k1, k2⟩ := h.2
  have H := Lib.hid h
  have HR := Lib.hid R
  clear h R c0 c1
  by_cases h2 : 2 ≤ s.l
  · have hk : ¬ s.takes := fun x => x (.inr h2)
    unfold Pt.val
    rw [if_neg hk, if_neg hk]
    have j2 : (2 : Int) ≤ s.l := by omega
    clear hk
    go_enter Tryz.func142, Tryz.ntmps142
    go_wp2_with fail
    go_ret
    exact ⟨rfl, H.out, Kp.refl _ _⟩
  have j2 : ¬ (2 : Int) ≤ s.l := by omega
  by_cases h5 : s.p = 5
  · have hk : ¬ s.takes := fun x => x (.inl h5)
    unfold Pt.val
    rw [if_neg hk, if_neg hk]
    rw [h5] at c3
    clear hk h5 k2
    go_enter Tryz.func142, Tryz.ntmps142
    go_wp2_with fail
    go_ret
    exact ⟨rfl, H.out, Kp.refl _ _⟩
  have j5 : ¬ (4 : Int) < s.p := by omega
  have hk : s.takes := fun x => by omega
  unfold Pt.val
  rw [if_pos hk, if_pos hk]
  obtain ⟨b0, b1⟩ := hb
  obtain ⟨b, hb⟩ : ∃ b, peekI (n - t) (fun i => z (t + i)) 0 = b := ⟨_, rfl⟩
  rw [hb] at b0 b1 ⊢
  have HB := Lib.hid hb
  clear hk hb h5
  by_cases hl : s.l % 2 = 1
  · rw [if_pos hl]
    have jl : ((s.l : Int) % 2 == 1) = true := by
      have : (s.l : Int) % 2 = 1 := by omega
      simpa using this
    go_enter Tryz.func142, Tryz.ntmps142
    go_wp2_with fail
    refine (rpnext_any H.out HR.out hn ht).mono ?_
    rw [HB.out]
    rintro e w1 ⟨rfl, q1, q2⟩
    have d2 := q1.cells.2.2.1
    have Q1 := Lib.hid q1
    clear q1
    go_wp2_with fail
    go_ret
    exact ⟨rfl, Q1.out, q2⟩
  · rw [if_neg hl]
    have jl : ((s.l : Int) % 2 == 1) = false := by
      have : ¬ (s.l : Int) % 2 = 1 := by omega
      simpa using this
    go_enter Tryz.func142, Tryz.ntmps142
    go_wp2_with fail
    refine (rpnext_any H.out HR.out hn ht).mono ?_
    rw [HB.out]
    rintro e w1 ⟨rfl, q1, q2⟩
    have d2 := q1.cells.2.2.1
    have Q1 := Lib.hid q1
    clear q1
    go_wp2_with fail
    go_ret
    exact ⟨rfl, Q1.out, q2⟩
def RPCopyR (A : Option Addr) (n c t : Nat) (s : Pt) (w : World) (e : Ending) (w' : World) : Prop :=
  e = .returned (.pointer (some ⟨w.heap.size, 0, none⟩)) ∧ RP w' w.heap.size A n c t s ∧ Below w.heap.size w w'
set_option maxHeartbeats 4000000 in
theorem rpcopy_any (h : RP w r A n c t s) :
    Calls Tryz.prog 103 #[.pointer (some ⟨r, 0, none⟩)] w (RPCopyR A n c t s w) := by
  have hk := h.2
  obtain ⟨c0, c1, c2, c3⟩ := h.cells
  have HK := Lib.hid hk
  clear h hk
  go_enter Tryz.func103, Tryz.ntmps103
  go_wp2_with fail
  go_region
  all_goals
    go_wp2_with fail
    go_ret
    exact ⟨rfl, ⟨Blk.new w.drew _ _, HK.out⟩, (Below.refl _ _).drew.alloc (Nat.le_refl _) _⟩
end
end Go.Proofs.YtleofglnlfpoeaaGreat
