/-
  Texts of these proofs, one behind the other: Scr9, Scr10, Scr11.
-/
import Derived.Test.YtnhnphifhkkboaaDoorKSW27
import Derived.Test.YtnhnphifhkkboaaDoorKSW28
import Derived.Test.YtnhnphifhkkboaaDoorKSW29
namespace Go.Proofs.YtnhnphifhkkboaaDoor
open Go.RowKit Go.Shelf
set_option linter.unusedVariables false
set_option linter.unusedSimpArgs false
set_option maxRecDepth 100000
theorem wp_append_anyC {P : Program} {w w' : World} {o : Oper} {a : Act} {K : Act → World → Prop} {Q : Exit → Act → World → Prop} (s x : Operand) (t : TypeId)
    (ho : o.op = .call { callee := .builtin .append, args := #[s, x], argTypes := #[t, t] }) {v u v' : Value} (hs : a.eval s = v) (hx : a.eval x = u)
    (hrun : (Builtin.append_ #[t, t] o.type #[v, u]).run P w = .ok v' w') (h : K (a.put o.dst v') w') : Oper.wp P o a w K Q := by
  unfold Oper.wp execOp
  simp only [ho, resolve, invoke, builtin, Sem.run_bind, Sem.run_pure, Result.andThen_ok, List.map_toArray, List.map_cons, List.map_nil, hs, hx, hrun]
  exact h
theorem slice_tail (A : Option Addr) (n c : Nat) (hn : 1 ≤ n) (hc : n ≤ c) (W : World) : (Instr.slice 45 (.slice A n c) (some (.int .i64 1)) none none).run Tryd.prog W = .ok (.slice (if c = 1 then A else A.map (·.add 1)) (n - 1) (c - 1)) W := by
  have hs : (sizeOf 9).run Tryd.prog W = .ok 1 W := by kernel_rfl
  have he' : Tryd.prog.elem 45 = 9 := by kernel_rfl
  have h := run_slice_l (P := Tryd.prog) W 45 A n c (by rw [he']; exact Tryd.underlying45) .i64 1 (by omega) (by omega)
  rw [he', hs] at h
  rw [h]
  simp [Result.andThen, sliced]
theorem pieceT_nil (td : Td) : pieceT [] td = (3, td) := rfl
theorem pieceT_no (x : ByteArray) (r : List ByteArray) (td : Td) (h : hxB 6 x = false) : pieceT (x :: r) td = (3, td) := by simp [pieceT, h]
theorem pieceT_bad (x : ByteArray) (r : List ByteArray) (td : Td) (h : hxB 6 x = true) (hr : r = [] ∨ bytesA r = none) : pieceT (x :: r) td = (3, td) := by
  rcases hr with rfl | hr
  · simp [pieceT, h]
  · cases r with
    | nil => simp [pieceT, h]
    | cons y r => simp [pieceT, h, hr]
theorem pieceT_ok (x : ByteArray) (r : List ByteArray) (td : Td) (ys : List Int) (h : hxB 6 x = true) (hr : r ≠ []) (hy : bytesA r = some ys) : pieceT (x :: r) td = (0, { td with rom := td.rom ++ [((fhA x).1, ys)] }) := by
  cases r with
  | nil => exact absurd rfl hr
  | cons y r => simp [pieceT, h, hy]
set_option maxHeartbeats 16000000 in
theorem scpiece_any {B g mb : Nat} {td : Td} {vP vV vC vR vE : Value} {w : World} (h : TdH B g mb td vP vV vC vR vE w) (hB : B ≤ w.heap.size) (hn : td.rom.length ≤ 100000000000) (rest : List ByteArray) (A : Option Addr) (c : Nat) (hc : rest.length ≤ c) (HS : SRow w A rest) (HT : Typed w A 9) (hsz : ∀ x ∈ rest, x.size ≤ 1000000) (hlen : rest.length ≤ 1000000) :
    Calls Tryd.prog 95 #[.pointer (some ⟨g, 0, none⟩), .slice A rest.length c] w fun e w' => TakeR B g mb (tdL g mb vP vV vC vR vE) (pieceT rest td) w e w' := by
  rcases rest with _ | ⟨x, r⟩
  · rw [pieceT_nil]
    have H3 : Hid (TakeR B g mb (tdL g mb vP vV vC vR vE) (3, td) w (.returned (.int .i64 3)) w) := Lib.hid ⟨rfl, Kp.refl _ _, fun e => absurd e (by simp)⟩
    have h0 : ([] : List ByteArray).length = 0 := rfl
    rw [h0] at hc ⊢
    clear h0 HS HT hsz hlen h
    go_enter Tryd.func95, Tryd.ntmps95
    go_wp2_with fail
    go_ret
    exact H3.out
  · obtain ⟨ad, rfl, hcx⟩ := srow_one HS
    have hxs := hsz x (by simp)
    have hH := fun W => schex_any x 6 W hxs (by decide)
    obtain ⟨n, hnn⟩ : ∃ n, (x :: r).length = n := ⟨_, rfl⟩
    have hnr : n = r.length + 1 := hnn.symm
    have e0 : ((n : Int) == 0) = false := by rw [beq_eq_false_iff_ne]; omega
    have n0 : 0 < n := by omega
    rw [hnn] at hc hlen ⊢
    cases hx6 : hxB 6 x with
    | false =>
      rw [pieceT_no x r td hx6]
      rw [hx6] at hH
      have H3 : Hid (∀ w', Below w.heap.size w w' → TakeR B g mb (tdL g mb vP vV vC vR vE) (3, td) w (.returned (.int .i64 3)) w') := Lib.hid fun w' hb => ⟨rfl, Kp.of_below hb, fun e => absurd e (by simp)⟩
      clear h HS HT hsz hlen hnn hnr
      go_enter Tryd.func95, Tryd.ntmps95
      go_wp2_with (go_at_call 124; refine (hH _).mono ?_; rintro e w' ⟨rfl, hb⟩)
      all_goals (go_ret; exact H3.out _ hb)
    | true =>
      rw [hx6] at hH
      have hbd := fhA_bd' x
      have hsx : x.size = 6 := by
        have := hx6; unfold hxB at this; simp only [decide_eq_true_eq] at this; exact this.2
      rw [hsx] at hbd
      have hP0 := Lib.hid (pieceT_bad x r td hx6)
      have hP1 := Lib.hid (fun ys => pieceT_ok x r td ys hx6)
      obtain ⟨z, hz⟩ : ∃ z, (fhA x).1 = z := ⟨_, rfl⟩
      rw [hz] at hH hbd hP1
      have z0 : 0 ≤ z := hbd.1
      have z1 : z ≤ 16777215 := by have := hbd.2; have : (16 : Int) ^ 6 = 16777216 := by decide
                                   omega
      have e64 : IntKind.i64.wrap z = z := IntWalk.i64_in _ (by omega)
      obtain ⟨RR, hRR⟩ : ∃ RR, pieceT (x :: r) td = RR := ⟨_, rfl⟩
      rw [hRR] at hP0 hP1 ⊢
      have HH := Lib.hid h
      have HH0 := Lib.hid h
      have HSR := Lib.hid (HS.tail (c := c) (by omega))
      have HTR := Lib.hid (HT.from_ 1 c)
      have hsl := slice_tail (some ad) n c n0 hc
      rw [hnr, Nat.add_sub_cancel] at hsl
      rw [← hnr] at hsl
      obtain ⟨A1, hA1⟩ : ∃ A1, (if c = 1 then some ad else (some ad).map (·.add 1)) = A1 := ⟨_, rfl⟩
      rw [hA1] at hsl HSR HTR
      obtain ⟨rn, hrn⟩ : ∃ rn, r.length = rn := ⟨_, rfl⟩
      rw [hrn] at hsl
      obtain ⟨c1, hc1⟩ : ∃ c1, c - 1 = c1 := ⟨_, rfl⟩
      rw [hc1] at hsl
      have HC1 := Lib.hid hc1
      have HRN := Lib.hid hrn
      have HSZ := Lib.hid (fun y (hy : y ∈ r) => hsz y (List.mem_cons_of_mem _ hy))
      have HNR := Lib.hid hnr
      clear h HS HT hsz hx6 hz hRR hsx hbd hnn hxs hnr hA1 hc1 hrn
      go_enter Tryd.func95, Tryd.ntmps95
      go_upto_region 7 with (go_at_call 124; refine (hH _).mono ?_; rintro e w1 ⟨rfl, hb⟩)
      have hbx : Blk (w1.alloc (.cells #[.int .i64 z, .slice none 0 0] 108)) w1.heap.size 108 #[.int .i64 z, .slice none 0 0] := Blk.new _ _ _
      have hb2 : Below w.heap.size w (w1.alloc (.cells #[.int .i64 z, .slice none 0 0] 108)) := hb.alloc hb.size _
      have hpb : w.heap.size ≤ w1.heap.size := hb.size
      obtain ⟨pb, hpbe⟩ : ∃ pb, w1.heap.size = pb := ⟨_, rfl⟩
      rw [hpbe] at hbx hpb ⊢
      generalize World.alloc w1 _ = w2 at hb2 hbx ⊢
      have HM := Lib.hid (scmore_any hbx (o := 1) (v := .slice none 0 0) (xs := []) rfl (by decide) (World.ownsRow_nil w2 B 5 1 : w2.ownsRow B 5 1 (.slice none 0 0) ([] : List Int).length (bV [])) (Nat.le_trans hB hb2.size) r A1 c1 (by have := HNR.out; have := HC1.out; omega) (HSR.out.keep hb2) ((HTR.out.kp (Kp.of_below (L := []) hb2) (by simp))) (by decide) HSZ.out (by have := HNR.out; show 0 + r.length ≤ _; omega))
      rw [HRN.out] at HM
      have HB2 := Lib.hid hb2
      have HBX := Lib.hid hbx
      clear hb hb2 hbx hcx hpbe hH
      go_wp2_with fail
      refine HM.out.mono ?_
      rintro e w3 ⟨kK, ⟨rfl, hbad⟩ | ⟨ys, v', rfl, hr, hy, hbk, own, hv⟩⟩
      · have H3 : Hid (TakeR B g mb (tdL g mb vP vV vC vR vE) RR w (.returned (.int .i64 3)) w3) := Lib.hid (by
          rw [hP0.out hbad]
          exact ⟨rfl, (Kp.of_below HB2.out).trans kK (fun q hq => Or.inr (by simp [Value.ownBlock] at hq; omega)), fun e => absurd e (by simp)⟩)
        clear kK hbad
        go_wp2_with fail
        go_ret
        exact H3.out
      · rw [List.nil_append] at own
        have hyl : ys.length = r.length := bytesA_len _ _ hy
        obtain ⟨m, hm⟩ : ∃ m, ys.length = m + 1 := ⟨ys.length - 1, by
          have : r.length ≠ 0 := fun e => hr (List.length_eq_zero_iff.1 e)
          omega⟩
        have own' := own
        rw [hm] at own'
        obtain ⟨gb', cb', rfl⟩ := ownsRow_succ own'
        have hvq : pb ≤ w2.heap.size := by have := HBX.out.lt; omega
        have k3 : Kp [] w w3 := (Kp.of_below HB2.out).trans kK (fun q hq => Or.inr (by simp [Value.ownBlock] at hq; omega))
        have h3 := HH.out.kp k3 (by simp)
        have du : ∀ q, (Value.slice (some ⟨gb', 0, none⟩) (m + 1) cb').ownBlock = some q → vV.ownBlock ≠ some q ∧ vC.ownBlock ≠ some q ∧ vR.ownBlock ≠ some q := fun q hq => by
          have hqw : w.heap.size ≤ q := by
            rcases hv with e | ⟨k, e, hk⟩
            · rw [hq] at e; cases e
            · rw [hq] at e; injection e with e; subst e; have := HB2.out.size; omega
          exact ⟨fun e => by have := own_lt HH.out.rv e; omega, fun e => by have := own_lt HH.out.rc e; omega, fun e => by have := own_lt HH.out.rr e; omega⟩
        have HOK := Lib.hid (hP1.out ys hr hy)
        have hbk' : Blk w3 pb 108 #[.int .i64 z, .slice (some ⟨gb', 0, none⟩) (m + 1) cb'] := hbk
        have B3 : B ≤ w3.heap.size := Nat.le_trans hB k3.size
        have PB := Lib.hid hbk'
        have H3 := Lib.hid h3
        have K3 := Lib.hid k3
        have OW := Lib.hid own
        have DU := Lib.hid du
        clear kK hy hbk hbk' own own' hv k3 h3 du hyl hm hP1 hP0 HH hr
        go_upto_region 10 with fail
        refine rg_begin (S := fun w' => w'.cell? ⟨pb, 0, none⟩ = some (.int .i64 z) ∧ w'.cell? ⟨pb, 1, none⟩ = some (.slice (some ⟨gb', 0, none⟩) (m + 1) cb')) 11 #[false, false, false, false, false, false, false, false, false, false, false] (by kernel_rfl) (by kernel_rfl) (by kernel_rfl) ?_ (fun hHeld => ?_)
        · exact ⟨PB.out.cell 0, PB.out.cell 1⟩
        have XD := Lib.hid (PB.out.kp (Kp.refl [] _).drew (by simp))
        have HD := Lib.hid (H3.out.kp (Kp.refl [] _).drew (by simp))
        have KD := Lib.hid (K3.out.drew)
        have OD := Lib.hid (own_kp OW.out (Kp.refl [] _).drew (by simp))
        have BD : B ≤ w3.drew.heap.size := B3
        clear PB H3 K3 OW B3
        generalize World.drew w3 = wD at *
        refine rg_take (i := 0) (d := some 31) (l := #[true, false, false, false, false, false, false, false, false, false, false]) (fuel := 10) (v := ?_) rfl (by kernel_rfl) (by kernel_rfl) (by kernel_rfl) (by kernel_rfl) (by kernel_rfl) (fun _ _ _ h => h) (by kernel_rfl) ?_ (by assumption) ?_
        rotate_left 1
        · (intro wS hSw; (try dsimp only at hSw); go_simp; try with_reducible rfl)
        try simp only [Act.put, List.setIfInBounds_toArray, List.set_cons_zero, List.set_cons_succ]
        refine rg_take (i := 1) (d := some 32) (l := #[true, true, false, false, false, false, false, false, false, false, false]) (fuel := 9) (v := ?_) rfl (by kernel_rfl) (by kernel_rfl) (by kernel_rfl) (by kernel_rfl) (by kernel_rfl) (fun _ _ _ h => h) (by kernel_rfl) ?_ (by assumption) ?_
        rotate_left 1
        · (intro wS hSw; (try dsimp only at hSw); go_simp; try with_reducible rfl)
        try simp only [Act.put, List.setIfInBounds_toArray, List.set_cons_zero, List.set_cons_succ]
        refine rg_take (i := 2) (d := some 33) (l := #[true, true, true, false, false, false, false, false, false, false, false]) (fuel := 8) (v := ?_) rfl (by kernel_rfl) (by kernel_rfl) (by kernel_rfl) (by kernel_rfl) (by kernel_rfl) (fun _ _ _ h => h) (by kernel_rfl) ?_ (by assumption) ?_
        rotate_left 1
        · (intro wS hSw; (try dsimp only at hSw); go_simp; try with_reducible rfl)
        try simp only [Act.put, List.setIfInBounds_toArray, List.set_cons_zero, List.set_cons_succ]
        refine rg_take (i := 3) (d := some 34) (l := #[true, true, true, true, false, false, false, false, false, false, false]) (fuel := 7) (v := ?_) rfl (by kernel_rfl) (by kernel_rfl) (by kernel_rfl) (by kernel_rfl) (by kernel_rfl) (fun _ _ _ h => h) (by kernel_rfl) ?_ (by assumption) ?_
        rotate_left 1
        · (intro wS hSw; (try dsimp only at hSw); go_simp; try with_reducible rfl)
        try simp only [Act.put, List.setIfInBounds_toArray, List.set_cons_zero, List.set_cons_succ]
        refine rg_take (i := 5) (d := some 36) (l := #[true, true, true, true, false, true, false, false, false, false, false]) (fuel := 6) (v := ?_) rfl (by kernel_rfl) (by kernel_rfl) (by kernel_rfl) (by kernel_rfl) (by kernel_rfl) (fun _ _ _ h => h) (by kernel_rfl) ?_ (by assumption) ?_
        rotate_left 1
        · (intro wS hSw; (try dsimp only at hSw); go_simp; try with_reducible rfl)
        try simp only [Act.put, List.setIfInBounds_toArray, List.set_cons_zero, List.set_cons_succ]
        obtain ⟨b, c5, w5, hrun, c10b, z10, gb, far, h6, k6, l6⟩ := HD.out.addP (at_ := z) OD.out DU.out BD hn
        have RUN := Lib.hid hrun
        have pbl : ∀ q, vP.ownBlock = some q → pb ≠ q := fun q hq => by obtain ⟨ps, _, hp, _⟩ := HH0.out.rom; have := own_lt hp hq; omega
        have X4 := Lib.hid (XD.out.alloc (.cells (pcC (z, .slice (some ⟨gb', 0, none⟩) (m + 1) cb', ys)).toArray 108))
        have X5 := Lib.hid (X4.out.grown gb (fun e => pbl pb e.symm rfl))
        have X6 := Lib.hid (X5.out.far (p := ⟨g, 1, none⟩) (fun e => by have h1 : pb = g := e; have := HH0.out.blk.lt; omega) (.slice (some ⟨b, 0, none⟩) (td.rom.length + 1) c5))
        have c10 : wD.cell? ⟨g, 1, none⟩ = some vP := HD.out.blk.cell 1
        have c10a : (wD.alloc (.cells #[.int .i64 z, .slice (some ⟨gb', 0, none⟩) (m + 1) cb'] 108)).cell? ⟨g, 1, none⟩ = some vP := (HD.out.blk.alloc _).cell 1
        have HW : Hid (TakeR B g mb (tdL g mb vP vV vC vR vE) RR w (.returned (.int .i64 0)) (w5.setCell ⟨g, 1, none⟩ (.slice (some ⟨b, 0, none⟩) (td.rom.length + 1) c5))) := Lib.hid (by rw [HOK.out]; exact ⟨rfl, KD.out.mono (by simp) |>.trans k6 (fun x hx => Or.inl hx), fun _ => ⟨_, _, _, _, _, h6, fun x hx => (l6 x hx).imp id (fun h => Nat.le_trans KD.out.size h)⟩⟩)
        clear hrun gb far h6 k6 l6 pbl DU OD
        refine rg_of (rs := [4, 6]) (fuel := 5) (by kernel_rfl) rfl ?_
        refine rg_step (i := 4) (l := #[true, true, true, true, true, true, false, false, false, false, false]) rfl (by kernel_rfl) (by kernel_rfl) ?_ ?_
        · intro K hK
          go_simp
          skip
          first | (refine hK.out _ _ ?_ (fun hHeld => ?_)) | (go_wp2_with fail; refine hK.out _ _ ?_ (fun hHeld => ?_))
          · (try dsimp only); exact ⟨XD.out.cell 0, XD.out.cell 1⟩
          clear hK K
          try simp only [Act.put, List.setIfInBounds_toArray, List.set_cons_zero, List.set_cons_succ]
          refine rg_next (i := 6) (l := #[true, true, true, true, true, true, true, false, false, false, false]) (fuel := 4) (by kernel_rfl) rfl (by kernel_rfl) (by kernel_rfl) (fun K hK => ?_)
          go_simp
          skip
          first | (refine hK.out _ _ ?_ (fun hHeld => ?_)) | (go_wp2_with fail; refine hK.out _ _ ?_ (fun hHeld => ?_))
          · (try dsimp only); exact ⟨X4.out.cell 0, X4.out.cell 1⟩
          clear hK K
          try simp only [Act.put, List.setIfInBounds_toArray, List.set_cons_zero, List.set_cons_succ]
          refine rg_next (i := 7) (l := #[true, true, true, true, true, true, true, true, false, false, false]) (fuel := 3) (by kernel_rfl) rfl (by kernel_rfl) (by kernel_rfl) (fun K hK => ?_)
          refine wp_append_anyC (.tmp 35) (.tmp 37) 82 rfl rfl rfl RUN.out ?_
          refine hK.out _ _ ?_ (fun hHeld => ?_)
          · (try dsimp only); exact ⟨X5.out.cell 0, X5.out.cell 1⟩
          clear hK K
          try simp only [Act.put, List.setIfInBounds_toArray, List.set_cons_zero, List.set_cons_succ]
          refine rg_take (i := 8) (d := some 39) (l := #[true, true, true, true, true, true, true, true, true, false, false]) (fuel := 2) (v := ?_) rfl (by kernel_rfl) (by kernel_rfl) (by kernel_rfl) (by kernel_rfl) (by kernel_rfl) (fun _ _ _ h => h) (by kernel_rfl) ?_ (by assumption) ?_
          rotate_left 1
          · (intro wS hSw; (try dsimp only at hSw); go_simp; try with_reducible rfl)
          try simp only [Act.put, List.setIfInBounds_toArray, List.set_cons_zero, List.set_cons_succ]
          refine rg_take (i := 9) (d := some 40) (l := #[true, true, true, true, true, true, true, true, true, true, false]) (fuel := 1) (v := ?_) rfl (by kernel_rfl) (by kernel_rfl) (by kernel_rfl) (by kernel_rfl) (by kernel_rfl) (fun _ _ _ h => h) (by kernel_rfl) ?_ (by assumption) ?_
          rotate_left 1
          · (intro wS hSw; (try dsimp only at hSw); go_simp; try with_reducible rfl)
          try simp only [Act.put, List.setIfInBounds_toArray, List.set_cons_zero, List.set_cons_succ]
          refine rg_next (i := 10) (l := #[true, true, true, true, true, true, true, true, true, true, true]) (fuel := 0) (by kernel_rfl) rfl (by kernel_rfl) (by kernel_rfl) (fun K hK => ?_)
          go_simp
          skip
          first | (refine hK.out _ _ ?_ (fun hHeld => ?_)) | (go_wp2_with fail; refine hK.out _ _ ?_ (fun hHeld => ?_))
          · (try dsimp only); exact ⟨X6.out.cell 0, X6.out.cell 1⟩
          clear hK K
          try simp only [Act.put, List.setIfInBounds_toArray, List.set_cons_zero, List.set_cons_succ]
          refine wpAnyH_done (by kernel_rfl) ?_ _
          go_wp2_with fail
          go_ret
          exact HW.out
        refine rg_step (i := 6) (l := #[true, true, true, true, false, true, true, false, false, false, false]) rfl (by kernel_rfl) (by kernel_rfl) ?_ ?_
        · intro K hK
          go_simp
          skip
          first | (refine hK.out _ _ ?_ (fun hHeld => ?_)) | (go_wp2_with fail; refine hK.out _ _ ?_ (fun hHeld => ?_))
          · (try dsimp only); exact ⟨X4.out.cell 0, X4.out.cell 1⟩
          clear hK K
          try simp only [Act.put, List.setIfInBounds_toArray, List.set_cons_zero, List.set_cons_succ]
          refine rg_next (i := 4) (l := #[true, true, true, true, true, true, true, false, false, false, false]) (fuel := 4) (by kernel_rfl) rfl (by kernel_rfl) (by kernel_rfl) (fun K hK => ?_)
          go_simp
          skip
          first | (refine hK.out _ _ ?_ (fun hHeld => ?_)) | (go_wp2_with fail; refine hK.out _ _ ?_ (fun hHeld => ?_))
          · (try dsimp only); exact ⟨X4.out.cell 0, X4.out.cell 1⟩
          clear hK K
          try simp only [Act.put, List.setIfInBounds_toArray, List.set_cons_zero, List.set_cons_succ]
          refine rg_next (i := 7) (l := #[true, true, true, true, true, true, true, true, false, false, false]) (fuel := 3) (by kernel_rfl) rfl (by kernel_rfl) (by kernel_rfl) (fun K hK => ?_)
          refine wp_append_anyC (.tmp 35) (.tmp 37) 82 rfl rfl rfl RUN.out ?_
          refine hK.out _ _ ?_ (fun hHeld => ?_)
          · (try dsimp only); exact ⟨X5.out.cell 0, X5.out.cell 1⟩
          clear hK K
          try simp only [Act.put, List.setIfInBounds_toArray, List.set_cons_zero, List.set_cons_succ]
          refine rg_take (i := 8) (d := some 39) (l := #[true, true, true, true, true, true, true, true, true, false, false]) (fuel := 2) (v := ?_) rfl (by kernel_rfl) (by kernel_rfl) (by kernel_rfl) (by kernel_rfl) (by kernel_rfl) (fun _ _ _ h => h) (by kernel_rfl) ?_ (by assumption) ?_
          rotate_left 1
          · (intro wS hSw; (try dsimp only at hSw); go_simp; try with_reducible rfl)
          try simp only [Act.put, List.setIfInBounds_toArray, List.set_cons_zero, List.set_cons_succ]
          refine rg_take (i := 9) (d := some 40) (l := #[true, true, true, true, true, true, true, true, true, true, false]) (fuel := 1) (v := ?_) rfl (by kernel_rfl) (by kernel_rfl) (by kernel_rfl) (by kernel_rfl) (by kernel_rfl) (fun _ _ _ h => h) (by kernel_rfl) ?_ (by assumption) ?_
          rotate_left 1
          · (intro wS hSw; (try dsimp only at hSw); go_simp; try with_reducible rfl)
          try simp only [Act.put, List.setIfInBounds_toArray, List.set_cons_zero, List.set_cons_succ]
          refine rg_next (i := 10) (l := #[true, true, true, true, true, true, true, true, true, true, true]) (fuel := 0) (by kernel_rfl) rfl (by kernel_rfl) (by kernel_rfl) (fun K hK => ?_)
          go_simp
          skip
          first | (refine hK.out _ _ ?_ (fun hHeld => ?_)) | (go_wp2_with fail; refine hK.out _ _ ?_ (fun hHeld => ?_))
          · (try dsimp only); exact ⟨X6.out.cell 0, X6.out.cell 1⟩
          clear hK K
          try simp only [Act.put, List.setIfInBounds_toArray, List.set_cons_zero, List.set_cons_succ]
          refine wpAnyH_done (by kernel_rfl) ?_ _
          go_wp2_with fail
          go_ret
          exact HW.out
        exact AllReadyH.nil
end Go.Proofs.YtnhnphifhkkboaaDoor
namespace Go.Proofs.YtnhnphifhkkboaaDoor
open Go.RowKit Go.Shelf
set_option linter.unusedVariables false
set_option linter.unusedSimpArgs false
set_option maxRecDepth 100000
def nmL : Nat → List UInt8 | 0 => [114, 101, 115, 101, 116] | 1 => [110, 109, 105] | 2 => [105, 114, 113, 49] | _ => [105, 114, 113, 50]
def nmN : Nat → ByteArray | 0 => ⟨#[114, 101, 115, 101, 116]⟩ | 1 => ⟨#[110, 109, 105]⟩ | 2 => ⟨#[105, 114, 113, 49]⟩ | _ => ⟨#[105, 114, 113, 50]⟩
/-- The names of lines lie where the row says. -/
def NmT (w : World) : Prop := 0 < w.heap.size ∧ ∀ k, k < 4 → w.cell? ⟨0, k, none⟩ = some (.string (nmN k))
theorem NmT.below {w w' : World} {B : Nat} (h : NmT w) (hb : Below B w w') (hB : 0 < B) : NmT w' :=
  ⟨Nat.lt_of_lt_of_le h.1 hb.size, fun k hk => (World.cell?_of_block (hb.block _ hB)).trans (h.2 k hk)⟩
theorem beq_sym_ (a b : List UInt8) : (a == b) = (b == a) := by
  rw [Bool.eq_iff_iff, beq_iff_eq, beq_iff_eq]; exact ⟨Eq.symm, Eq.symm⟩
theorem nm_at0 (W : World) : (Instr.index 109 (.agg #[.string ⟨#[114, 101, 115, 101, 116]⟩, .string ⟨#[110, 109, 105]⟩, .string ⟨#[105, 114, 113, 49]⟩, .string ⟨#[105, 114, 113, 50]⟩]) (.int .i64 0)).run Tryd.prog W = .ok (.string ⟨#[114, 101, 115, 101, 116]⟩) W := by kernel_rfl
theorem nm_at1 (W : World) : (Instr.index 109 (.agg #[.string ⟨#[114, 101, 115, 101, 116]⟩, .string ⟨#[110, 109, 105]⟩, .string ⟨#[105, 114, 113, 49]⟩, .string ⟨#[105, 114, 113, 50]⟩]) (.int .i64 1)).run Tryd.prog W = .ok (.string ⟨#[110, 109, 105]⟩) W := by kernel_rfl
theorem nm_at2 (W : World) : (Instr.index 109 (.agg #[.string ⟨#[114, 101, 115, 101, 116]⟩, .string ⟨#[110, 109, 105]⟩, .string ⟨#[105, 114, 113, 49]⟩, .string ⟨#[105, 114, 113, 50]⟩]) (.int .i64 2)).run Tryd.prog W = .ok (.string ⟨#[105, 114, 113, 49]⟩) W := by kernel_rfl
theorem nm_at3 (W : World) : (Instr.index 109 (.agg #[.string ⟨#[114, 101, 115, 101, 116]⟩, .string ⟨#[110, 109, 105]⟩, .string ⟨#[105, 114, 113, 49]⟩, .string ⟨#[105, 114, 113, 50]⟩]) (.int .i64 3)).run Tryd.prog W = .ok (.string ⟨#[105, 114, 113, 50]⟩) W := by kernel_rfl
theorem edgeT_len (up : Bool) (rest : List ByteArray) (td : Td) (h : rest.length ≠ 2) : edgeT up rest td = (3, td) := by
  match rest, h with
  | [], _ => rfl
  | [x], _ => rfl
  | [x, y], h => exact absurd rfl h
  | x :: y :: z :: r, _ => rfl
theorem edgeT_two (up : Bool) (x y : ByteArray) (td : Td) : edgeT up [x, y] td = if (numP x).2 ≠ 0 then ((3 : Int), td) else match nameI y with
    | none => ((8 : Int), td)
    | some i => ((0 : Int), { td with edges := td.edges ++ [⟨(numP x).1, (i : Int), up⟩] }) := rfl
theorem srow_two {w : World} {A : Option Addr} {x y : ByteArray} {r : List ByteArray} (h : SRow w A (x :: y :: r)) : ∃ ad, A = some ad ∧ w.cell? ad = some (.string x) ∧ w.cell? (ad.add 1) = some (.string y) := by
  obtain ⟨ad, e, _, hc⟩ := h 0 x rfl
  obtain ⟨ad', e', _, hc'⟩ := h 1 y rfl
  rw [e] at e'; injection e' with e'; subst e'
  exact ⟨ad, e, hc, hc'⟩
set_option maxHeartbeats 16000000 in
theorem scedge_any {B g mb : Nat} {td : Td} {vP vV vC vR vE : Value} {w : World} (h : TdH B g mb td vP vV vC vR vE w) (hN : NmT w) (hB : B ≤ w.heap.size) (hn : td.edges.length ≤ 100000000000) (up : Bool) (rest : List ByteArray) (A : Option Addr) (c : Nat) (hc : rest.length ≤ c) (HS : SRow w A rest) (hsz : ∀ x ∈ rest, x.size ≤ 1000000) (hlen : rest.length ≤ 1000000) :
    Calls Tryd.prog 97 #[.pointer (some ⟨g, 0, none⟩), .bool up, .slice A rest.length c] w fun e w' => TakeR B g mb (tdL g mb vP vV vC vR vE) (edgeT up rest td) w e w' := by
  have bad : ∀ (n : Int), n ≠ 0 → TakeR B g mb (tdL g mb vP vV vC vR vE) (n, td) w (.returned (.int .i64 n)) w := fun n hn => ⟨rfl, Kp.refl _ _, fun e => absurd e hn⟩
  have HBAD := Lib.hid bad
  clear bad
  by_cases h2 : rest.length = 2
  · obtain ⟨x, y, rfl⟩ : ∃ x y, rest = [x, y] := by
      match rest, h2 with
      | [x, y], _ => exact ⟨x, y, rfl⟩
    obtain ⟨ad, rfl, hcx, hcy0⟩ := srow_two HS
    have hcy : w.cell? ⟨ad.block, ad.off + 1, none⟩ = some (.string y) := hcy0
    clear hcy0
    have hxs := hsz x (by simp)
    have hNu := fun W => scnumber_any x W (by unfold maxLen; omega)
    have hT := edgeT_two up x y td
    obtain ⟨RR, hRR⟩ : ∃ RR, edgeT up [x, y] td = RR := ⟨_, rfl⟩
    rw [hRR] at hT ⊢
    obtain ⟨N, hNN⟩ : ∃ N, numP x = N := ⟨_, rfl⟩
    rw [hNN] at hNu hT
    obtain ⟨n, e⟩ := N
    dsimp only at hNu hT
    have hl2 : [x, y].length = 2 := rfl
    rw [hl2] at hc ⊢
    clear hNN hRR hsz hlen HS h2 hl2 hxs
    by_cases he : e = 0
    · subst he
      rw [if_neg (by simp)] at hT
      have c0 : w.cell? ⟨0, 0, none⟩ = some (.string ⟨#[114, 101, 115, 101, 116]⟩) := hN.2 0 (by decide)
      have c1 : w.cell? ⟨0, 1, none⟩ = some (.string ⟨#[110, 109, 105]⟩) := hN.2 1 (by decide)
      have c2 : w.cell? ⟨0, 2, none⟩ = some (.string ⟨#[105, 114, 113, 49]⟩) := hN.2 2 (by decide)
      have c3 : w.cell? ⟨0, 3, none⟩ = some (.string ⟨#[105, 114, 113, 50]⟩) := hN.2 3 (by decide)
      have c4 : w.cell? ⟨g, 5, none⟩ = some vE := h.blk.cell 5
      have HT := Lib.hid hT
      have HH := Lib.hid h
      clear hT h hN
      go_enter Tryd.func97, Tryd.ntmps97
      go_wp2_with (go_at_call 22; refine (hNu _).mono ?_; rintro e w' ⟨rfl, rfl⟩)
      go_loopw [24] (fun i wr => ∃ k : Nat, k ≤ 4 ∧ i = .int .i64 (k : Int) ∧ w' = wr ∧ ∀ j, j < k → eqB y (nmL j) = false) (fun i _ => 4 - (intOf i).toNat)
      case atStart => exact ⟨0, by omega, rfl, rfl, fun j hj => absurd hj (by omega)⟩
      case round =>
        obtain ⟨k, hk, rfl, rfl, hno⟩ := hrel
        have hk5 : k = 0 ∨ k = 1 ∨ k = 2 ∨ k = 3 ∨ k = 4 := by omega
        clear hk
        rcases hk5 with rfl | rfl | rfl | rfl | rfl
        · have HNO := Lib.hid hno
          have hix := nm_at0 w'
          rw [show (((0 : Nat) : Int)) = 0 from rfl]
          cases hb : eqB y (nmL 0) with
          | true =>
            have hb1 : (y.toList == [114, 101, 115, 101, 116]) = true := hb
            have hb2 : ([114, 101, 115, 101, 116] == y.toList) = true := by rw [← hb1]; exact beq_sym_ _ _
            have hI : nameI y = some 0 := by
              have q := HNO.out
              unfold nameI
              have q0 : eqB y [114, 101, 115, 101, 116] = true := hb
              simp only [q0, if_true, Bool.false_eq_true, if_false]
            have hR : RR = (0, { td with edges := td.edges ++ [⟨n, ((0 : Nat) : Int), up⟩] }) := by have := HT.out; rw [hI] at this; exact this
            obtain ⟨b, c5, w5, hrun, c10b, z10, gb, far, h6, k6, l6⟩ := HH.out.addE (p := ⟨n, ((0 : Nat) : Int), up⟩) hB hn
            have HW : Hid (TakeR B g mb (tdL g mb vP vV vC vR vE) RR w' (.returned (.int .i64 0)) (w5.setCell ⟨g, 5, none⟩ (.slice (some ⟨b, 0, none⟩) (td.edges.length + 1) c5))) := Lib.hid (by rw [hR]; exact ⟨rfl, k6, fun _ => ⟨_, _, _, _, _, h6, l6⟩⟩)
            obtain ⟨TN, hTN⟩ : ∃ m, td.edges.length + 1 = m := ⟨_, rfl⟩
            rw [hTN] at hrun HW
            clear hno hI hR gb far h6 k6 l6 hb hTN
            go_wp2_with (at_builtin; refine wpList_append_run rfl (.tmp 37) (.tmp 43) 25 rfl rfl rfl hrun ?_)
            all_goals (go_ret; exact HW.out)
          | false =>
            have hb1 : (y.toList == [114, 101, 115, 101, 116]) = false := hb
            have hb2 : ([114, 101, 115, 101, 116] == y.toList) = false := by rw [← hb1]; exact beq_sym_ _ _
            clear hno
            go_wp2_with fail
            go_roundw
            case rel => exact ⟨1, by omega, by go_num, trivial, fun j hj => (Nat.lt_succ_iff_lt_or_eq.1 hj).elim (HNO.out j) fun e => by subst e; exact hb⟩
            case measure => simp [intOf]
        · have HNO := Lib.hid hno
          have hix := nm_at1 w'
          rw [show (((1 : Nat) : Int)) = 1 from rfl]
          cases hb : eqB y (nmL 1) with
          | true =>
            have hb1 : (y.toList == [110, 109, 105]) = true := hb
            have hb2 : ([110, 109, 105] == y.toList) = true := by rw [← hb1]; exact beq_sym_ _ _
            have hI : nameI y = some 1 := by
              have q := HNO.out
              have q0 : eqB y [114, 101, 115, 101, 116] = false := q 0 (by omega)
              unfold nameI
              have q1 : eqB y [110, 109, 105] = true := hb
              simp only [q0, q1, if_true, Bool.false_eq_true, if_false]
            have hR : RR = (0, { td with edges := td.edges ++ [⟨n, ((1 : Nat) : Int), up⟩] }) := by have := HT.out; rw [hI] at this; exact this
            obtain ⟨b, c5, w5, hrun, c10b, z10, gb, far, h6, k6, l6⟩ := HH.out.addE (p := ⟨n, ((1 : Nat) : Int), up⟩) hB hn
            have HW : Hid (TakeR B g mb (tdL g mb vP vV vC vR vE) RR w' (.returned (.int .i64 0)) (w5.setCell ⟨g, 5, none⟩ (.slice (some ⟨b, 0, none⟩) (td.edges.length + 1) c5))) := Lib.hid (by rw [hR]; exact ⟨rfl, k6, fun _ => ⟨_, _, _, _, _, h6, l6⟩⟩)
            obtain ⟨TN, hTN⟩ : ∃ m, td.edges.length + 1 = m := ⟨_, rfl⟩
            rw [hTN] at hrun HW
            clear hno hI hR gb far h6 k6 l6 hb hTN
            go_wp2_with (at_builtin; refine wpList_append_run rfl (.tmp 37) (.tmp 43) 25 rfl rfl rfl hrun ?_)
            all_goals (go_ret; exact HW.out)
          | false =>
            have hb1 : (y.toList == [110, 109, 105]) = false := hb
            have hb2 : ([110, 109, 105] == y.toList) = false := by rw [← hb1]; exact beq_sym_ _ _
            clear hno
            go_wp2_with fail
            go_roundw
            case rel => exact ⟨2, by omega, by go_num, trivial, fun j hj => (Nat.lt_succ_iff_lt_or_eq.1 hj).elim (HNO.out j) fun e => by subst e; exact hb⟩
            case measure => simp [intOf]
        · have HNO := Lib.hid hno
          have hix := nm_at2 w'
          rw [show (((2 : Nat) : Int)) = 2 from rfl]
          cases hb : eqB y (nmL 2) with
          | true =>
            have hb1 : (y.toList == [105, 114, 113, 49]) = true := hb
            have hb2 : ([105, 114, 113, 49] == y.toList) = true := by rw [← hb1]; exact beq_sym_ _ _
            have hI : nameI y = some 2 := by
              have q := HNO.out
              have q0 : eqB y [114, 101, 115, 101, 116] = false := q 0 (by omega)
              have q1 : eqB y [110, 109, 105] = false := q 1 (by omega)
              unfold nameI
              have q2 : eqB y [105, 114, 113, 49] = true := hb
              simp only [q0, q1, q2, if_true, Bool.false_eq_true, if_false]
            have hR : RR = (0, { td with edges := td.edges ++ [⟨n, ((2 : Nat) : Int), up⟩] }) := by have := HT.out; rw [hI] at this; exact this
            obtain ⟨b, c5, w5, hrun, c10b, z10, gb, far, h6, k6, l6⟩ := HH.out.addE (p := ⟨n, ((2 : Nat) : Int), up⟩) hB hn
            have HW : Hid (TakeR B g mb (tdL g mb vP vV vC vR vE) RR w' (.returned (.int .i64 0)) (w5.setCell ⟨g, 5, none⟩ (.slice (some ⟨b, 0, none⟩) (td.edges.length + 1) c5))) := Lib.hid (by rw [hR]; exact ⟨rfl, k6, fun _ => ⟨_, _, _, _, _, h6, l6⟩⟩)
            obtain ⟨TN, hTN⟩ : ∃ m, td.edges.length + 1 = m := ⟨_, rfl⟩
            rw [hTN] at hrun HW
            clear hno hI hR gb far h6 k6 l6 hb hTN
            go_wp2_with (at_builtin; refine wpList_append_run rfl (.tmp 37) (.tmp 43) 25 rfl rfl rfl hrun ?_)
            all_goals (go_ret; exact HW.out)
          | false =>
            have hb1 : (y.toList == [105, 114, 113, 49]) = false := hb
            have hb2 : ([105, 114, 113, 49] == y.toList) = false := by rw [← hb1]; exact beq_sym_ _ _
            clear hno
            go_wp2_with fail
            go_roundw
            case rel => exact ⟨3, by omega, by go_num, trivial, fun j hj => (Nat.lt_succ_iff_lt_or_eq.1 hj).elim (HNO.out j) fun e => by subst e; exact hb⟩
            case measure => simp [intOf]
        · have HNO := Lib.hid hno
          have hix := nm_at3 w'
          rw [show (((3 : Nat) : Int)) = 3 from rfl]
          cases hb : eqB y (nmL 3) with
          | true =>
            have hb1 : (y.toList == [105, 114, 113, 50]) = true := hb
            have hb2 : ([105, 114, 113, 50] == y.toList) = true := by rw [← hb1]; exact beq_sym_ _ _
            have hI : nameI y = some 3 := by
              have q := HNO.out
              have q0 : eqB y [114, 101, 115, 101, 116] = false := q 0 (by omega)
              have q1 : eqB y [110, 109, 105] = false := q 1 (by omega)
              have q2 : eqB y [105, 114, 113, 49] = false := q 2 (by omega)
              unfold nameI
              have q3 : eqB y [105, 114, 113, 50] = true := hb
              simp only [q0, q1, q2, q3, if_true, Bool.false_eq_true, if_false]
            have hR : RR = (0, { td with edges := td.edges ++ [⟨n, ((3 : Nat) : Int), up⟩] }) := by have := HT.out; rw [hI] at this; exact this
            obtain ⟨b, c5, w5, hrun, c10b, z10, gb, far, h6, k6, l6⟩ := HH.out.addE (p := ⟨n, ((3 : Nat) : Int), up⟩) hB hn
            have HW : Hid (TakeR B g mb (tdL g mb vP vV vC vR vE) RR w' (.returned (.int .i64 0)) (w5.setCell ⟨g, 5, none⟩ (.slice (some ⟨b, 0, none⟩) (td.edges.length + 1) c5))) := Lib.hid (by rw [hR]; exact ⟨rfl, k6, fun _ => ⟨_, _, _, _, _, h6, l6⟩⟩)
            obtain ⟨TN, hTN⟩ : ∃ m, td.edges.length + 1 = m := ⟨_, rfl⟩
            rw [hTN] at hrun HW
            clear hno hI hR gb far h6 k6 l6 hb hTN
            go_wp2_with (at_builtin; refine wpList_append_run rfl (.tmp 37) (.tmp 43) 25 rfl rfl rfl hrun ?_)
            all_goals (go_ret; exact HW.out)
          | false =>
            have hb1 : (y.toList == [105, 114, 113, 50]) = false := hb
            have hb2 : ([105, 114, 113, 50] == y.toList) = false := by rw [← hb1]; exact beq_sym_ _ _
            clear hno
            go_wp2_with fail
            go_roundw
            case rel => exact ⟨4, by omega, by go_num, trivial, fun j hj => (Nat.lt_succ_iff_lt_or_eq.1 hj).elim (HNO.out j) fun e => by subst e; exact hb⟩
            case measure => simp [intOf]
        · rw [show (((4 : Nat) : Int)) = 4 from rfl]
          have hI : nameI y = none := by
            have q0 : eqB y [114, 101, 115, 101, 116] = false := hno 0 (by omega)
            have q1 : eqB y [110, 109, 105] = false := hno 1 (by omega)
            have q2 : eqB y [105, 114, 113, 49] = false := hno 2 (by omega)
            have q3 : eqB y [105, 114, 113, 50] = false := hno 3 (by omega)
            unfold nameI
            simp only [q0, q1, q2, q3, Bool.false_eq_true, if_false]
          have hR : RR = (8, td) := by have := HT.out; rw [hI] at this; exact this
          have H8 : Hid (TakeR B g mb (tdL g mb vP vV vC vR vE) RR w' (.returned (.int .i64 8)) w') := Lib.hid (by rw [hR]; exact HBAD.out 8 (by decide))
          clear hno hI hR
          go_wp2_with fail
          all_goals (go_ret; exact H8.out)
    · rw [if_pos he] at hT
      subst hT
      have e1 : (e != 0) = true := by rw [bne_iff_ne]; exact he
      have H3 := Lib.hid (HBAD.out 3 (by decide))
      clear HBAD h he hN
      go_enter Tryd.func97, Tryd.ntmps97
      go_wp2_with (go_at_call 22; refine (hNu _).mono ?_; rintro e w' ⟨rfl, rfl⟩)
      all_goals (go_ret; exact H3.out)
  · have e1 : ((rest.length : Int) != 2) = true := by rw [bne_iff_ne]; omega
    rw [edgeT_len up rest td h2]
    have H3 := Lib.hid (HBAD.out 3 (by decide))
    obtain ⟨n, hnn⟩ : ∃ n, rest.length = n := ⟨_, rfl⟩
    rw [hnn] at e1 hc ⊢
    clear h2 hnn HS hsz HBAD h hN hlen
    go_enter Tryd.func97, Tryd.ntmps97
    go_wp2_with fail
    all_goals (go_ret; exact H3.out)
end Go.Proofs.YtnhnphifhkkboaaDoor
namespace Go.Proofs.YtnhnphifhkkboaaDoor
open Go.RowKit Go.Shelf
set_option linter.unusedVariables false
set_option linter.unusedSimpArgs false
set_option maxRecDepth 100000
/-- What bounds rows: so many bytes of a text were read. -/
structure TdOk (p : Nat) (td : Td) : Prop where
  rom : td.rom.length ≤ p
  vdc : td.vdc.length ≤ p
  vce : td.vce.length ≤ p
  port : td.port.length ≤ p
  edges : td.edges.length ≤ p
theorem lineW_len (s : ByteArray) : (lineW s).length ≤ s.size ∧ ∀ x ∈ lineW s, 0 < x.size ∧ x.size ≤ s.size := by
  have h1 : (wordsB s).length ≤ s.size := by unfold wordsB; rw [List.length_map]; exact spW_len s
  have h2 := wordsB_ne s
  unfold lineW
  revert h1 h2
  cases wordsB s with
  | nil => intro _ _; exact ⟨Nat.zero_le _, fun x hx => by simp at hx⟩
  | cons x r =>
    intro h1 h2
    dsimp only
    split
    · exact ⟨Nat.zero_le _, fun x hx => by simp at hx⟩
    · exact ⟨h1, h2⟩
theorem eqB_eq {x : ByteArray} {l : List UInt8} (h : eqB x l = true) : x = ⟨l.toArray⟩ := by
  unfold eqB at h
  rw [beq_iff_eq, ByteArray.toList_eq] at h
  cases x with
  | mk d => cases d with
    | mk m => simp at h; rw [h]
theorem takeR_more {B g mb : Nat} {td : Td} {vP vV vC vR vE : Value} {w w' : World} (h : TdH B g mb td vP vV vC vR vE w) (k : Nat) (hk : k < 3) {v : Value} (hv : v = if k = 0 then vV else if k = 1 then vC else vR) {xs : List Int} (hx : xs = if k = 0 then td.vdc else if k = 1 then td.vce else td.port)
    {ws : List ByteArray} {e : Ending} (hm : MoreR g (k + 2) 84 #[.map (some mb), vP, vV, vC, vR, vE] v B xs ws w e w') : TakeR B g mb (tdL g mb vP vV vC vR vE) (feedT k ws td) w e w' := by
  obtain ⟨kk, hr⟩ := hm
  have hL : ∀ x ∈ g :: v.ownBlock.toList, x ∈ tdL g mb vP vV vC vR vE := fun x hx => by
    rcases List.mem_cons.1 hx with rfl | hx
    · exact mem_tdL.2 (Or.inl rfl)
    · have hx : v.ownBlock = some x := by simpa using hx
      rw [hv] at hx
      rcases (by omega : k = 0 ∨ k = 1 ∨ k = 2) with rfl | rfl | rfl
      · exact mem_tdL.2 (by simp at hx; simp [hx])
      · exact mem_tdL.2 (by simp at hx; simp [hx])
      · exact mem_tdL.2 (by simp at hx; simp [hx])
  rcases hr with ⟨rfl, hbad⟩ | ⟨ys, v', rfl, hne, hy, hb, own, hvb⟩
  · have : feedT k ws td = (3, td) := by
      rcases hbad with rfl | hbad
      · rfl
      · cases ws with
        | nil => rfl
        | cons x r => simp [feedT, hbad]
    rw [this]
    exact ⟨rfl, kk.mono hL, fun e => absurd e (by simp)⟩
  · have hT : feedT k ws td = (0, if k = 0 then { td with vdc := td.vdc ++ ys } else if k = 1 then { td with vce := td.vce ++ ys } else { td with port := td.port ++ ys }) := by
      cases ws with
      | nil => exact absurd rfl hne
      | cons x r => simp [feedT, hy]
    rw [hT]
    subst hv hx
    refine ⟨rfl, kk.mono hL, fun _ => ?_⟩
    rcases (by omega : k = 0 ∨ k = 1 ∨ k = 2) with rfl | rfl | rfl
    · have := h.feed0 kk hb own hvb; exact ⟨_, _, _, _, _, this.1, this.2⟩
    · have := h.feed1 kk hb own hvb; exact ⟨_, _, _, _, _, this.1, this.2⟩
    · have := h.feed2 kk hb own hvb; exact ⟨_, _, _, _, _, this.1, this.2⟩
set_option maxHeartbeats 16000000 in
theorem sctake_any {B g mb p : Nat} {td : Td} {vP vV vC vR vE : Value} {w : World} (h : TdH B g mb td vP vV vC vR vE w) (hN : NmT w) (hNB : 0 < B) (hB : B ≤ w.heap.size) (hp : TdOk p td) (at_ : Int) (s : ByteArray) (ended : Bool) (hss : s.size ≤ 1000000) (hs : p + s.size ≤ 100000000000) :
    Calls Tryd.prog 50 #[.pointer (some ⟨g, 0, none⟩), .agg #[.int .i64 at_, .string s, .bool ended]] w fun e w' => TakeR B g mb (tdL g mb vP vV vC vR vE) (if ended then take1 (lineW s) td else (3, td)) w e w' := by
  have HBAD : Hid (∀ (n : Int) (w' : World), n ≠ 0 → Below w.heap.size w w' → TakeR B g mb (tdL g mb vP vV vC vR vE) (n, td) w (.returned (.int .i64 n)) w') := Lib.hid fun n w' hn hb => ⟨rfl, Kp.of_below hb, fun e => absurd e hn⟩
  cases ended with
  | false =>
    rw [if_neg (by decide)]
    clear h hN hp
    go_enter Tryd.func50, Tryd.ntmps50
    go_wp2_with fail
    all_goals (go_ret; exact HBAD.out 3 _ (by decide) ((Below.refl _ w).alloc (Nat.le_refl _) _))
  | true =>
    rw [if_pos rfl]
    have hL := fun W => scline_any s (by omega) W
    obtain ⟨hwl, hws⟩ := lineW_len s
    obtain ⟨ws, hwse⟩ : ∃ ws, lineW s = ws := ⟨_, rfl⟩
    rw [hwse] at hL hwl hws ⊢
    clear hwse
    have HH := Lib.hid (And.intro h (And.intro hN hp))
    clear h hN hp
    go_enter Tryd.func50, Tryd.ntmps50
    go_wp2_with fail
    refine (hL _).mono ?_
    rintro e w2 ⟨A, c, rfl, hc1, hc2, HS, HT, hA0, hAb, hb2⟩
    have hBW : Below w.heap.size w w2 := ((Below.refl _ w).alloc (Nat.le_refl _) _).trans (hb2.mono (by simp))
    rcases ws with _ | ⟨f, r⟩
    · have HW : Hid (TakeR B g mb (tdL g mb vP vV vC vR vE) (0, td) w (.returned (.int .i64 0)) w2) := Lib.hid ⟨rfl, Kp.of_below hBW, fun _ => ⟨_, _, _, _, _, HH.out.1.below hBW, fun x hx => Or.inl hx⟩⟩
      have h0 : ([] : List ByteArray).length = 0 := rfl
      rw [h0]
      clear hb2 hBW HS HT hA0 hAb hc1 hc2 h0 hL hws hwl
      go_wp2_with fail
      all_goals (go_ret; exact HW.out)
    · obtain ⟨ad, rfl, hcx⟩ := srow_one HS
      have hf := hws f (by simp)
      have hsl := slice_tail (some ad) (r.length + 1) c (by omega) hc1
      rw [Nat.add_sub_cancel] at hsl
      obtain ⟨A1, hA1⟩ : ∃ A1, (if c = 1 then some ad else (some ad).map (·.add 1)) = A1 := ⟨_, rfl⟩
      have HSR := Lib.hid (hA1 ▸ HS.tail (c := c) hc1)
      have HTR := Lib.hid (hA1 ▸ HT.from_ 1 c)
      rw [hA1] at hsl
      obtain ⟨rn, hrn⟩ : ∃ rn, r.length = rn := ⟨_, rfl⟩
      have hlc : (f :: r).length = rn + 1 := by rw [← hrn]; rfl
      rw [hlc] at hc1 ⊢
      rw [hrn] at hsl
      obtain ⟨n, hn⟩ : ∃ n, rn + 1 = n := ⟨_, rfl⟩
      rw [hn] at hsl hc1 ⊢
      have n0 : 0 < n := by omega
      have e0 : ((n : Int) == 0) = false := by rw [beq_eq_false_iff_ne]; omega
      obtain ⟨c1, hc1e⟩ : ∃ c1, c - 1 = c1 := ⟨_, rfl⟩
      rw [hc1e] at hsl
      have HRN := Lib.hid (And.intro hrn (show rn ≤ c1 by omega))
      have HWS := Lib.hid (show (∀ x ∈ r, x.size ≤ 1000000) ∧ p + r.length ≤ 100000000000 ∧ r.length ≤ 1000000 from ⟨fun x hx => by have := hws x (List.mem_cons_of_mem _ hx); omega, by simp at hwl; omega, by simp at hwl; omega⟩)
      have HBW := Lib.hid hBW
      clear hb2 hBW HS HT hA0 hAb hA1 hrn hlc hn hc1e hwl hws hf hL
      go_upto_region 6 with fail
      go_quiet (fail)
      obtain ⟨w3, hw3⟩ : ∃ w3, w2.drewN nq = w3 := ⟨_, rfl⟩
      have hB3 : Below w.heap.size w w3 := hw3 ▸ (below_drewN HBW.out nq)
      have HS3 : Hid (SRow w3 A1 r) := Lib.hid (hw3 ▸ HSR.out)
      have HT3 : Hid (Typed w3 A1 9) := Lib.hid (hw3 ▸ HTR.out)
      rw [hw3]
      clear hw3 hcx hsl HSR HTR HBW
      have h3 := HH.out.1.below hB3
      have N3 := HH.out.2.1.below hB3 (Nat.lt_of_lt_of_le hNB hB)
      have B3 : B ≤ w3.heap.size := Nat.le_trans hB hB3.size
      have hok := HH.out.2.2
      have FIN : Hid (∀ (rr : Int × Td) (e : Ending) (w4 : World), TakeR B g mb (tdL g mb vP vV vC vR vE) rr w3 e w4 → TakeR B g mb (tdL g mb vP vV vC vR vE) rr w e w4) := Lib.hid fun rr e w4 ⟨q1, q2, q3⟩ => ⟨q1, (Kp.of_below hB3).trans q2 (fun x hx => Or.inl hx), fun hz => by
        obtain ⟨a1, a2, a3, a4, a5, a6, a7⟩ := q3 hz
        exact ⟨a1, a2, a3, a4, a5, a6, fun x hx => (a7 x hx).imp id (fun hh => Nat.le_trans hB3.size hh)⟩⟩
      have c2 : w3.cell? ⟨g, 2, none⟩ = some vV := h3.blk.cell 2
      have c3 : w3.cell? ⟨g, 3, none⟩ = some vC := h3.blk.cell 3
      have c4 : w3.cell? ⟨g, 4, none⟩ = some vR := h3.blk.cell 4
      clear c2 c3 c4
      cases h_pages : eqB f [112, 97, 103, 101, 115] with
      | true =>
        have RR : Hid (take1 (f :: r) td = numT true r td) := Lib.hid (by simp only [take1, h_pages, if_true, Bool.false_eq_true, if_false])
        have CL := scnumber1_any h3 true r A1 c1 (by have := HRN.out; omega) HS3.out HWS.out.1
        rw [HRN.out.1] at CL
        have HCL := Lib.hid CL
        have y_pages : (f.toList == [112, 97, 103, 101, 115]) = true := h_pages
        obtain rfl := eqB_eq h_pages
        clear y_pages
        clear CL h3 N3 B3 hok hB3 HBAD  h_pages
        go_wp2_with fail
        refine HCL.out.mono ?_
        rintro e w4 hm
        obtain ⟨rfl, hq⟩ := FIN.out _ _ _ hm
        have HQ := Lib.hid hq
        clear hq hm
        obtain ⟨RV, hRV⟩ : ∃ RV, numT true r td = RV := ⟨_, rfl⟩
        rw [hRV] at HQ RR ⊢
        go_wp2_with fail
        all_goals (go_ret; rw [RR.out]; exact ⟨rfl, HQ.out⟩)
      | false =>
        cases h_budget : eqB f [98, 117, 100, 103, 101, 116] with
        | true =>
          have RR : Hid (take1 (f :: r) td = numT false r td) := Lib.hid (by simp only [take1, h_pages, h_budget, if_true, Bool.false_eq_true, if_false])
          have CL := scnumber1_any h3 false r A1 c1 (by have := HRN.out; omega) HS3.out HWS.out.1
          rw [HRN.out.1] at CL
          have HCL := Lib.hid CL
          have n_pages : (f.toList == [112, 97, 103, 101, 115]) = false := h_pages
          have y_budget : (f.toList == [98, 117, 100, 103, 101, 116]) = true := h_budget
          obtain rfl := eqB_eq h_budget
          clear n_pages
          clear y_budget
          clear CL h3 N3 B3 hok hB3 HBAD h_pages h_budget
          go_wp2_with fail
          refine HCL.out.mono ?_
          rintro e w4 hm
          obtain ⟨rfl, hq⟩ := FIN.out _ _ _ hm
          have HQ := Lib.hid hq
          clear hq hm
          obtain ⟨RV, hRV⟩ : ∃ RV, numT false r td = RV := ⟨_, rfl⟩
          rw [hRV] at HQ RR ⊢
          go_wp2_with fail
          all_goals (go_ret; rw [RR.out]; exact ⟨rfl, HQ.out⟩)
        | false =>
          cases h_rom : eqB f [114, 111, 109] with
          | true =>
            have RR : Hid (take1 (f :: r) td = pieceT r td) := Lib.hid (by simp only [take1, h_pages, h_budget, h_rom, if_true, Bool.false_eq_true, if_false])
            have CL := scpiece_any h3 B3 (by have := hok.rom; omega) r A1 c1 (by have := HRN.out; omega) HS3.out HT3.out HWS.out.1 HWS.out.2.2
            rw [HRN.out.1] at CL
            have HCL := Lib.hid CL
            have n_pages : (f.toList == [112, 97, 103, 101, 115]) = false := h_pages
            have n_budget : (f.toList == [98, 117, 100, 103, 101, 116]) = false := h_budget
            have y_rom : (f.toList == [114, 111, 109]) = true := h_rom
            clear CL h3 N3 B3 hok hB3 HBAD h_pages h_budget h_rom
            go_wp2_with fail
            refine HCL.out.mono ?_
            rintro e w4 hm
            obtain ⟨rfl, hq⟩ := FIN.out _ _ _ hm
            have HQ := Lib.hid hq
            clear hq hm
            obtain ⟨RV, hRV⟩ : ∃ RV, pieceT r td = RV := ⟨_, rfl⟩
            rw [hRV] at HQ RR ⊢
            go_wp2_with fail
            all_goals (go_ret; rw [RR.out]; exact ⟨rfl, HQ.out⟩)
          | false =>
            cases h_vdc : eqB f [118, 100, 99] with
            | true =>
              have RR : Hid (take1 (f :: r) td = feedT 0 r td) := Lib.hid (by simp only [take1, h_pages, h_budget, h_rom, h_vdc, if_true, Bool.false_eq_true, if_false])
              have CL := scmore_any h3.blk (o := 2) (v := vV) (xs := td.vdc) rfl (by decide) h3.rv B3 r A1 c1 (by have := HRN.out; omega) HS3.out HT3.out (by decide) HWS.out.1 (by have := hok.vdc; have := HWS.out.2.1; omega)
              rw [HRN.out.1] at CL
              have HCL := Lib.hid CL
              have TM : Hid (∀ (e : Ending) (w4 : World), MoreR g 2 84 #[.map (some mb), vP, vV, vC, vR, vE] vV B td.vdc r w3 e w4 → TakeR B g mb (tdL g mb vP vV vC vR vE) (feedT 0 r td) w3 e w4) := Lib.hid (fun e w4 hm => takeR_more h3 0 (by decide) rfl rfl hm)
              have n_pages : (f.toList == [112, 97, 103, 101, 115]) = false := h_pages
              have n_budget : (f.toList == [98, 117, 100, 103, 101, 116]) = false := h_budget
              have n_rom : (f.toList == [114, 111, 109]) = false := h_rom
              have y_vdc : (f.toList == [118, 100, 99]) = true := h_vdc
              clear CL h3 N3 B3 hok hB3 HBAD h_pages h_budget h_rom h_vdc
              go_wp2_with fail
              refine HCL.out.mono ?_
              rintro e w4 hm
              obtain ⟨rfl, hq⟩ := FIN.out _ _ _ (TM.out _ _ hm)
              have HQ := Lib.hid hq
              clear hq hm
              obtain ⟨RV, hRV⟩ : ∃ RV, feedT 0 r td = RV := ⟨_, rfl⟩
              rw [hRV] at HQ RR ⊢
              go_wp2_with fail
              all_goals (go_ret; rw [RR.out]; exact ⟨rfl, HQ.out⟩)
            | false =>
              cases h_vce : eqB f [118, 99, 101] with
              | true =>
                have RR : Hid (take1 (f :: r) td = feedT 1 r td) := Lib.hid (by simp only [take1, h_pages, h_budget, h_rom, h_vdc, h_vce, if_true, Bool.false_eq_true, if_false])
                have CL := scmore_any h3.blk (o := 3) (v := vC) (xs := td.vce) rfl (by decide) h3.rc B3 r A1 c1 (by have := HRN.out; omega) HS3.out HT3.out (by decide) HWS.out.1 (by have := hok.vce; have := HWS.out.2.1; omega)
                rw [HRN.out.1] at CL
                have HCL := Lib.hid CL
                have TM : Hid (∀ (e : Ending) (w4 : World), MoreR g 3 84 #[.map (some mb), vP, vV, vC, vR, vE] vC B td.vce r w3 e w4 → TakeR B g mb (tdL g mb vP vV vC vR vE) (feedT 1 r td) w3 e w4) := Lib.hid (fun e w4 hm => takeR_more h3 1 (by decide) rfl rfl hm)
                have n_pages : (f.toList == [112, 97, 103, 101, 115]) = false := h_pages
                have n_budget : (f.toList == [98, 117, 100, 103, 101, 116]) = false := h_budget
                have n_rom : (f.toList == [114, 111, 109]) = false := h_rom
                have n_vdc : (f.toList == [118, 100, 99]) = false := h_vdc
                have y_vce : (f.toList == [118, 99, 101]) = true := h_vce
                clear CL h3 N3 B3 hok hB3 HBAD h_pages h_budget h_rom h_vdc h_vce
                go_wp2_with fail
                refine HCL.out.mono ?_
                rintro e w4 hm
                obtain ⟨rfl, hq⟩ := FIN.out _ _ _ (TM.out _ _ hm)
                have HQ := Lib.hid hq
                clear hq hm
                obtain ⟨RV, hRV⟩ : ∃ RV, feedT 1 r td = RV := ⟨_, rfl⟩
                rw [hRV] at HQ RR ⊢
                go_wp2_with fail
                all_goals (go_ret; rw [RR.out]; exact ⟨rfl, HQ.out⟩)
              | false =>
                cases h_port : eqB f [112, 111, 114, 116] with
                | true =>
                  have RR : Hid (take1 (f :: r) td = feedT 2 r td) := Lib.hid (by simp only [take1, h_pages, h_budget, h_rom, h_vdc, h_vce, h_port, if_true, Bool.false_eq_true, if_false])
                  have CL := scmore_any h3.blk (o := 4) (v := vR) (xs := td.port) rfl (by decide) h3.rr B3 r A1 c1 (by have := HRN.out; omega) HS3.out HT3.out (by decide) HWS.out.1 (by have := hok.port; have := HWS.out.2.1; omega)
                  rw [HRN.out.1] at CL
                  have HCL := Lib.hid CL
                  have TM : Hid (∀ (e : Ending) (w4 : World), MoreR g 4 84 #[.map (some mb), vP, vV, vC, vR, vE] vR B td.port r w3 e w4 → TakeR B g mb (tdL g mb vP vV vC vR vE) (feedT 2 r td) w3 e w4) := Lib.hid (fun e w4 hm => takeR_more h3 2 (by decide) rfl rfl hm)
                  have n_pages : (f.toList == [112, 97, 103, 101, 115]) = false := h_pages
                  have n_budget : (f.toList == [98, 117, 100, 103, 101, 116]) = false := h_budget
                  have n_rom : (f.toList == [114, 111, 109]) = false := h_rom
                  have n_vdc : (f.toList == [118, 100, 99]) = false := h_vdc
                  have n_vce : (f.toList == [118, 99, 101]) = false := h_vce
                  have y_port : (f.toList == [112, 111, 114, 116]) = true := h_port
                  clear CL h3 N3 B3 hok hB3 HBAD h_pages h_budget h_rom h_vdc h_vce h_port
                  go_wp2_with fail
                  refine HCL.out.mono ?_
                  rintro e w4 hm
                  obtain ⟨rfl, hq⟩ := FIN.out _ _ _ (TM.out _ _ hm)
                  have HQ := Lib.hid hq
                  clear hq hm
                  obtain ⟨RV, hRV⟩ : ∃ RV, feedT 2 r td = RV := ⟨_, rfl⟩
                  rw [hRV] at HQ RR ⊢
                  go_wp2_with fail
                  all_goals (go_ret; rw [RR.out]; exact ⟨rfl, HQ.out⟩)
                | false =>
                  cases h_up : eqB f [117, 112] with
                  | true =>
                    have RR : Hid (take1 (f :: r) td = edgeT true r td) := Lib.hid (by simp only [take1, h_pages, h_budget, h_rom, h_vdc, h_vce, h_port, h_up, if_true, Bool.false_eq_true, if_false])
                    have CL := scedge_any h3 N3 B3 (by have := hok.edges; omega) true r A1 c1 (by have := HRN.out; omega) HS3.out HWS.out.1 HWS.out.2.2
                    rw [HRN.out.1] at CL
                    have HCL := Lib.hid CL
                    have n_pages : (f.toList == [112, 97, 103, 101, 115]) = false := h_pages
                    have n_budget : (f.toList == [98, 117, 100, 103, 101, 116]) = false := h_budget
                    have n_rom : (f.toList == [114, 111, 109]) = false := h_rom
                    have n_vdc : (f.toList == [118, 100, 99]) = false := h_vdc
                    have n_vce : (f.toList == [118, 99, 101]) = false := h_vce
                    have n_port : (f.toList == [112, 111, 114, 116]) = false := h_port
                    have y_up : (f.toList == [117, 112]) = true := h_up
                    clear CL h3 N3 B3 hok hB3 HBAD h_pages h_budget h_rom h_vdc h_vce h_port h_up
                    go_wp2_with fail
                    refine HCL.out.mono ?_
                    rintro e w4 hm
                    obtain ⟨rfl, hq⟩ := FIN.out _ _ _ hm
                    have HQ := Lib.hid hq
                    clear hq hm
                    obtain ⟨RV, hRV⟩ : ∃ RV, edgeT true r td = RV := ⟨_, rfl⟩
                    rw [hRV] at HQ RR ⊢
                    go_wp2_with fail
                    all_goals (go_ret; rw [RR.out]; exact ⟨rfl, HQ.out⟩)
                  | false =>
                    cases h_down : eqB f [100, 111, 119, 110] with
                    | true =>
                      have RR : Hid (take1 (f :: r) td = edgeT false r td) := Lib.hid (by simp only [take1, h_pages, h_budget, h_rom, h_vdc, h_vce, h_port, h_up, h_down, if_true, Bool.false_eq_true, if_false])
                      have CL := scedge_any h3 N3 B3 (by have := hok.edges; omega) false r A1 c1 (by have := HRN.out; omega) HS3.out HWS.out.1 HWS.out.2.2
                      rw [HRN.out.1] at CL
                      have HCL := Lib.hid CL
                      have n_pages : (f.toList == [112, 97, 103, 101, 115]) = false := h_pages
                      have n_budget : (f.toList == [98, 117, 100, 103, 101, 116]) = false := h_budget
                      have n_rom : (f.toList == [114, 111, 109]) = false := h_rom
                      have n_vdc : (f.toList == [118, 100, 99]) = false := h_vdc
                      have n_vce : (f.toList == [118, 99, 101]) = false := h_vce
                      have n_port : (f.toList == [112, 111, 114, 116]) = false := h_port
                      have n_up : (f.toList == [117, 112]) = false := h_up
                      have y_down : (f.toList == [100, 111, 119, 110]) = true := h_down
                      clear CL h3 N3 B3 hok hB3 HBAD h_pages h_budget h_rom h_vdc h_vce h_port h_up h_down
                      go_wp2_with fail
                      refine HCL.out.mono ?_
                      rintro e w4 hm
                      obtain ⟨rfl, hq⟩ := FIN.out _ _ _ hm
                      have HQ := Lib.hid hq
                      clear hq hm
                      obtain ⟨RV, hRV⟩ : ∃ RV, edgeT false r td = RV := ⟨_, rfl⟩
                      rw [hRV] at HQ RR ⊢
                      go_wp2_with fail
                      all_goals (go_ret; rw [RR.out]; exact ⟨rfl, HQ.out⟩)
                    | false =>
                      have RR : Hid (take1 (f :: r) td = (10, td)) := Lib.hid (by simp only [take1, h_pages, h_budget, h_rom, h_vdc, h_vce, h_port, h_up, h_down, Bool.false_eq_true, if_false])
                      have n_pages : (f.toList == [112, 97, 103, 101, 115]) = false := h_pages
                      have n_budget : (f.toList == [98, 117, 100, 103, 101, 116]) = false := h_budget
                      have n_rom : (f.toList == [114, 111, 109]) = false := h_rom
                      have n_vdc : (f.toList == [118, 100, 99]) = false := h_vdc
                      have n_vce : (f.toList == [118, 99, 101]) = false := h_vce
                      have n_port : (f.toList == [112, 111, 114, 116]) = false := h_port
                      have n_up : (f.toList == [117, 112]) = false := h_up
                      have n_down : (f.toList == [100, 111, 119, 110]) = false := h_down
                      have H10 := Lib.hid (HBAD.out 10 w3 (by decide) hB3)
                      clear h3 N3 B3 hok hB3 HBAD h_pages h_budget h_rom h_vdc h_vce h_port h_up h_down
                      go_wp2_with fail
                      all_goals (go_ret; rw [RR.out]; exact H10.out)
end Go.Proofs.YtnhnphifhkkboaaDoor
