/-
  Texts of these proofs, one behind the other: Rb4, Rb5, Rb6, Rb7, Rb8, Rb9.
-/
import Derived.Test.YtngfmofjonleeaaGreatKEA33
import Derived.Test.YtngfmofjonleeaaGreatKEA36
import Derived.Deep.Cut
import Derived.Deep.CutRange
import Derived.Deep.CutBlock
import Derived.Deep.RegionHeld3
import Derived.Test.YtngfmofjonleeaaGreatKEA26
import Derived.Test.YtngfmofjonleeaaGreatKEA22
namespace Go.Proofs.YtngfmofjonleeaaGreat
open Go.RowKit
set_option linter.unusedVariables false
set_option linter.unusedSimpArgs false
set_option maxRecDepth 100000
theorem where_dev {a : Int} (a0 : 0 ≤ a) (e : bankI a = 255) : whereI a ≠ 1 := fun h => ram_bank a a0 h e
section
variable {W w : World} {g : Nat} {d : Hd} {Q : Rbp} {s : Bs} {nx : Bool}
set_option maxHeartbeats 8000000 in
theorem rbwrite_some {a : Int} (v kd : Int) (v0 : 0 ≤ v) (v1 : v ≤ 255) (h : RBU W w g d Q s nx) (C : HC W d Q.Z) (hok : s.x.ok d) (hok2 : (s.beg d a).x.ok d) (hG : Good d.n d.es) (hnn : d.np ≤ 140737488355328 ∧ d.nv ≤ 140737488355328 ∧ d.nc ≤ 140737488355328) (a0 : 0 ≤ a) (a1 : a ≤ 4294967295) (h0 : 0 < s.left) (hle : s.left ≤ 1099511627776) (o1 : 0 ≤ s.now) (o2 : 0 ≤ s.cyc) (hn : s.now ≤ 1000000000000) (hc : s.cyc ≤ 1000000000000) (hl : s.x.lim 1000000) (ht : s.tl.length ≤ 1000000) :
    Calls Tryz.prog 10 #[.pointer (some ⟨g, 0, none⟩), .int .u32 a, .int .u8 v, .int .u8 kd] w (RbR (.tuple #[]) W g d Q (s.wrS d a v kd) nx w) := by
  have b0 : 0 ≤ a % 2097152 := by omega
  have b1 : a % 2097152 ≤ 4294967295 := by omega
  have HL : Hid ((s.beg d a).x.lim 1000000) := Lib.hid (Hp.lim_to hl)
  have BG := Lib.hid (rbbegin_any h C hok hG (a % 2097152) b0 b1 h0 hle o1 o2 hn hc)
  have c4 := h.cells.2.2.2.2.1
  obtain ⟨l, hl'⟩ : ∃ l, s.left = l := ⟨_, rfl⟩
  rw [hl'] at c4 h0
  have hl0 : (l == 0) = false := by simpa using (show ¬ l = 0 by omega)
  have HC := Lib.hid C
  have HOK := Lib.hid hok2
  have HG := Lib.hid hG
  have HNN := Lib.hid hnn
  have HT : Hid (s.tl.length ≤ 1000000) := Lib.hid ht
  clear h C hok hok2 hG hnn hle o1 o2 hn hc hl ht hl' h0
  unfold Bs.wrS
  obtain ⟨o, ho⟩ : ∃ o, offI a = o := ⟨_, rfl⟩
  have ho2 : a % 2097152 % 8192 = o := by rw [← ho]; unfold offI; omega
  have o0 : 0 ≤ o := by omega
  have o9 : o < 8192 := by omega
  have o8 : o ≤ 65535 := by omega
  have HO := Lib.hid ho2
  by_cases e : bankI a = 255
  · have HE : Hid (bankI (a % 2097152) = 255) := Lib.hid (by rw [bank_mod]; exact e)
    obtain ⟨k, hk⟩ : ∃ k, whereI a = k := ⟨_, rfl⟩
    have HK : Hid (whereI (a % 2097152) = k) := Lib.hid (by rw [where_mod]; exact hk)
    have nk : (k == 1) = false := by simpa using (hk ▸ where_dev a0 e)
    have eb : (s.beg d a).chS a v = { s.beg d a with x := (s.beg d a).x.wr (whereI (plA o)) (regI (plA o)) v } := by unfold Bs.chS; rw [if_pos e, ho]
    rw [eb]
    clear eb e ho ho2 hk
    go_enter Tryz.func10, Tryz.ntmps10
    go_wp2_with fail
    refine BG.out.mono ?_
    rw [Bs.beg_mod]
    rintro e w1 ⟨t1, rfl, h1, k1, f1⟩
    have H1 := Lib.hid h1
    have K1 := Lib.hid k1
    have F9 := Lib.hid f1
    clear h1 k1 f1 c4 BG
    go_wp2_with fail
    refine (rwhere_v b0 b1 HK.out).mono ?_
    rintro e w2 ⟨rfl, b2⟩
    have H2 := Lib.hid (H1.out.keep b2)
    have K2 := Lib.hid (K1.out.trans (Kp.of_below (L := ([] : List Nat)) b2) (by simp))
    have c2 := H2.out.cells.2.2.1
    clear b2 H1 K1
    go_wp2_with fail
    refine (rbank_v b0 b1 HE.out).mono ?_
    rintro e w3 ⟨rfl, rfl⟩
    have ho := HO.out
    go_wp2_with fail
    clear ho
    refine (rhwrite_any H2.out.pg o v o0 o8 v0 v1).mono ?_
    rintro e w9 ⟨rfl, hp, k9⟩
    have H9 := Lib.hid (H2.out.page k9 hp)
    have K9 := Lib.hid (K2.out.trans k9 (fun y hy => .inl (mem_rbL.2 (.inr (.inr (.inr (.inl hy)))))))
    clear hp k9 H2 K2 c2
    have c6 : w9.cell? ⟨g, 6, none⟩ = some t1 := H9.out.cells.2.2.2.2.2.2
    have tr9 : w9.ownsRow 0 129 5 t1 s.tl.length (accL s.tl) := H9.out.tr
    obtain ⟨v', w5, hrun, own, gb, fr⟩ := more_acc (ty := 52) tr9 ⟨s.now, a % 2097152, kd, true, v⟩ HT.out
    obtain ⟨gt, ct, rfl⟩ := ownsRow_succ own
    obtain ⟨bt, hcz⟩ := H9.out.told ⟨s.now, a % 2097152, kd, true, v⟩ own gb fr
    have c6b : w5.cell? ⟨g, 6, none⟩ = some t1 := hcz.1
    have z6 := hcz.2
    have BT := Lib.hid (RbR.after K9.out F9.out (bt (.tuple #[])))
    clear own gb fr bt tr9 hcz
    go_wp2_with (at_builtin; refine wpList_append_run rfl (.tmp 50) (.tmp 56) 52 rfl rfl rfl hrun ?_)
    first | go_end0 | refine bodyPost_ret (results_none rfl _ _ _) rfl ?_
    exact BT.out
  · obtain ⟨bb, hbb⟩ : ∃ bb, bankI a = bb := ⟨_, rfl⟩
    have HE : Hid (bankI (a % 2097152) = bb) := Lib.hid (by rw [bank_mod]; exact hbb)
    obtain ⟨k, hk⟩ : ∃ k, whereI a = k := ⟨_, rfl⟩
    have HK : Hid (whereI (a % 2097152) = k) := Lib.hid (by rw [where_mod]; exact hk)
    have eb : (s.beg d a).chS a v = if k = 1 then { s.beg d a with f := fw (s.beg d a).f o v } else s.beg d a := by unfold Bs.chS; rw [if_neg e, hk, ho]
    rw [hbb] at e
    have n1 : (bb == 255) = false := by simpa using e
    rw [eb]
    clear eb e ho ho2 hk hbb
    by_cases k1 : k = 1
    · subst k1
      rw [if_pos rfl]
      go_enter Tryz.func10, Tryz.ntmps10
      go_wp2_with fail
      refine BG.out.mono ?_
      rw [Bs.beg_mod]
      rintro e w1 ⟨t1, rfl, h1, k1, f1⟩
      have H1 := Lib.hid h1
      have K1 := Lib.hid k1
      have F9 := Lib.hid f1
      clear h1 k1 f1 c4 BG
      go_wp2_with fail
      refine (rwhere_v b0 b1 HK.out).mono ?_
      rintro e w2 ⟨rfl, b2⟩
      have H2 := Lib.hid (H1.out.keep b2)
      have K2 := Lib.hid (K1.out.trans (Kp.of_below (L := ([] : List Nat)) b2) (by simp))
      have c1 := H2.out.cells.2.1
      clear b2 H1 K1
      obtain ⟨C, hC, hf⟩ := H2.out.ram
      obtain ⟨j, hj⟩ := Int.eq_ofNat_of_zero_le o0
      subst hj
      have hj2 : j < 8192 := by omega
      have cj : w2.cell? ⟨Q.m, j, none⟩ = some (.int .u8 ((s.beg d a).f j)) := by rw [hC.cell]; simpa using hf j hj2
      have zj := hC.frozen j
      have km : Kp [Q.m] w2 (w2.setCell ⟨Q.m, j, none⟩ (.int .u8 v)) := (Kp.refl _ _).setCell (p := ⟨Q.m, j, none⟩) (.inl (by simp)) _
      have hm : Blk (w2.setCell ⟨Q.m, j, none⟩ (.int .u8 v)) Q.m 5 (C.set ((j : Int) % 8192).toNat (.int .u8 v)).toArray := by
        have := hC.set_ j (.int .u8 v)
        rw [set_arr_] at this
        rw [show ((j : Int) % 8192).toNat = j by omega]; exact this
      have H3 := Lib.hid (H2.out.mem (f' := fw (s.beg d a).f j v) km hm (hf.wr j v (by omega) (by omega)))
      have K3 := Lib.hid (K2.out.trans km (fun y hy => .inl (mem_rbL.2 (.inr (.inl (by simpa using hy))))))
      have ho := HO.out
      clear hC hf km hm H2 K2
      go_wp2_with fail
      clear ho
      refine (rbank_v b0 b1 HE.out).mono ?_
      rintro e w3 ⟨rfl, rfl⟩
      generalize hw9 : World.setCell w2 ⟨Q.m, j, none⟩ _ = w9 at *
      have H9 := Lib.hid H3.out
      have K9 := Lib.hid K3.out
      clear H3 K3 c1 cj zj hw9
      have c6 : w9.cell? ⟨g, 6, none⟩ = some t1 := H9.out.cells.2.2.2.2.2.2
      have tr9 : w9.ownsRow 0 129 5 t1 s.tl.length (accL s.tl) := H9.out.tr
      obtain ⟨v', w5, hrun, own, gb, fr⟩ := more_acc (ty := 52) tr9 ⟨s.now, a % 2097152, kd, true, v⟩ HT.out
      obtain ⟨gt, ct, rfl⟩ := ownsRow_succ own
      obtain ⟨bt, hcz⟩ := H9.out.told ⟨s.now, a % 2097152, kd, true, v⟩ own gb fr
      have c6b : w5.cell? ⟨g, 6, none⟩ = some t1 := hcz.1
      have z6 := hcz.2
      have BT := Lib.hid (RbR.after K9.out F9.out (bt (.tuple #[])))
      clear own gb fr bt tr9 hcz
      go_wp2_with (at_builtin; refine wpList_append_run rfl (.tmp 50) (.tmp 56) 52 rfl rfl rfl hrun ?_)
      first | go_end0 | refine bodyPost_ret (results_none rfl _ _ _) rfl ?_
      exact BT.out
    · rw [if_neg k1]
      have nk : (k == 1) = false := by simpa using k1
      go_enter Tryz.func10, Tryz.ntmps10
      go_wp2_with fail
      refine BG.out.mono ?_
      rw [Bs.beg_mod]
      rintro e w1 ⟨t1, rfl, h1, k1, f1⟩
      have H1 := Lib.hid h1
      have K1 := Lib.hid k1
      have F9 := Lib.hid f1
      clear h1 k1 f1 c4 BG
      go_wp2_with fail
      refine (rwhere_v b0 b1 HK.out).mono ?_
      rintro e w9 ⟨rfl, b2⟩
      have H9 := Lib.hid (H1.out.keep b2)
      have K9 := Lib.hid (K1.out.trans (Kp.of_below (L := ([] : List Nat)) b2) (by simp))
      clear b2 H1 K1
      go_wp2_with fail
      refine (rbank_v b0 b1 HE.out).mono ?_
      rintro e w3 ⟨rfl, rfl⟩
      have c6 : w9.cell? ⟨g, 6, none⟩ = some t1 := H9.out.cells.2.2.2.2.2.2
      have tr9 : w9.ownsRow 0 129 5 t1 s.tl.length (accL s.tl) := H9.out.tr
      obtain ⟨v', w5, hrun, own, gb, fr⟩ := more_acc (ty := 52) tr9 ⟨s.now, a % 2097152, kd, true, v⟩ HT.out
      obtain ⟨gt, ct, rfl⟩ := ownsRow_succ own
      obtain ⟨bt, hcz⟩ := H9.out.told ⟨s.now, a % 2097152, kd, true, v⟩ own gb fr
      have c6b : w5.cell? ⟨g, 6, none⟩ = some t1 := hcz.1
      have z6 := hcz.2
      have BT := Lib.hid (RbR.after K9.out F9.out (bt (.tuple #[])))
      clear own gb fr bt tr9 hcz
      go_wp2_with (at_builtin; refine wpList_append_run rfl (.tmp 50) (.tmp 56) 52 rfl rfl rfl hrun ?_)
      first | go_end0 | refine bodyPost_ret (results_none rfl _ _ _) rfl ?_
      exact BT.out
end
end Go.Proofs.YtngfmofjonleeaaGreat
namespace Go.Proofs.YtngfmofjonleeaaGreat
open Go.RowKit
set_option linter.unusedVariables false
set_option linter.unusedSimpArgs false
set_option maxRecDepth 100000
theorem Hp.ok_to {x : Hp} {d : Hd} (h : x.ok d) (t : Int) : (x.to d t).ok d := by
  unfold Hp.to
  split
  · exact h
  · rename_i hlt
    obtain ⟨o1, o2, o3, o4, o5, o6⟩ := h
    obtain ⟨k, e, hk, _⟩ := pass_ex (es := d.es) (t := t) o2
    refine ⟨Tm.go_ok o1 _, by dsimp only; rw [e]; exact hk, o3, ?_, o5, by dsimp only; omega⟩
    dsimp only
    split <;> exact o4
theorem row5 {w : World} {A : Option Addr} {l : List Acc} (Q : FRow w 5 A l.length (accF l)) (k : Nat) (hk : k < l.length) : ∃ (ad : Addr) (a : Acc), A = some ad ∧ l[k]? = some a ∧ ad.block < w.heap.size ∧ w.cell? (ad.add (k * 5)) = some (.int .i64 a.st) ∧
    w.cell? ⟨(ad.add (k * 5)).block, (ad.add (k * 5)).off + 1, none⟩ = some (.int .u32 a.ad) ∧ w.cell? ⟨(ad.add (k * 5)).block, (ad.add (k * 5)).off + 2, none⟩ = some (.int .u8 a.kd) ∧ w.cell? ⟨(ad.add (k * 5)).block, (ad.add (k * 5)).off + 3, none⟩ = some (.bool a.wr) ∧ w.cell? ⟨(ad.add (k * 5)).block, (ad.add (k * 5)).off + 4, none⟩ = some (.int .u8 a.dt) := by
  obtain ⟨ad, e, hl, hc⟩ := Q k hk
  have ha : l[k]? = some l[k] := List.getElem?_eq_getElem hk
  have f : ∀ j, j < 5 → w.cell? ((ad.add (k * 5)).add j) = some (accF l k j) := fun j hj => by
    have := hc j hj
    rw [← add_of_add] at this; exact this
  refine ⟨ad, l[k], e, ha, hl, ?_, ?_, ?_, ?_, ?_⟩
  · have h := hc 0 (by decide); rw [show accF l k 0 = .int .i64 l[k].st by simp [accF, ha, accC]] at h; exact h
  · have h := f 1 (by decide); rw [show accF l k 1 = .int .u32 l[k].ad by simp [accF, ha, accC]] at h; exact h
  · have h := f 2 (by decide); rw [show accF l k 2 = .int .u8 l[k].kd by simp [accF, ha, accC]] at h; exact h
  · have h := f 3 (by decide); rw [show accF l k 3 = .bool l[k].wr by simp [accF, ha, accC]] at h; exact h
  · have h := f 4 (by decide); rw [show accF l k 4 = .int .u8 l[k].dt by simp [accF, ha, accC]] at h; exact h
set_option maxHeartbeats 4000000 in
theorem rsame_any {w : World} {A B : Option Addr} {c c2 : Nat} {l : List Acc} (Q : FRow w 5 A l.length (accF l)) (R : FRow w 5 B l.length (accF l)) (hl : l.length ≤ 1000000) :
    Calls Tryz.prog 13 #[.slice A l.length c, .slice B l.length c2] w fun e w' => e = .returned (.bool true) ∧ Below w.heap.size w w' := by
  have HQ := Lib.hid Q
  have HR := Lib.hid R
  obtain ⟨n, hn⟩ : ∃ n, l.length = n := ⟨_, rfl⟩
  rw [hn] at hl ⊢
  have HN := Lib.hid hn
  clear Q R hn
  go_enter Tryz.func13, Tryz.ntmps13
  go_wp2_with fail
  go_loopw [5] (fun i wr => ∃ k : Nat, k ≤ n ∧ i = .int .i64 k ∧ Below w.heap.size w wr) (fun i _ => n - (intOf i).toNat)
  case atStart => exact ⟨0, Nat.zero_le _, rfl, Below.refl _ _⟩
  case round =>
    obtain ⟨k, hk, rfl, hb⟩ := hrel
    have HB := Lib.hid hb
    by_cases hlt : k < n
    · obtain ⟨ad, a, rfl, ea, hla, q0, q1, q2, q3, q4⟩ := row5 (FRow.keep HQ.out hb) k (by rw [HN.out]; exact hlt)
      obtain ⟨ad2, a2, rfl, ea2, hlb, r0, r1, r2, r3, r4⟩ := row5 (FRow.keep HR.out hb) k (by rw [HN.out]; exact hlt)
      obtain rfl : a = a2 := by rw [ea] at ea2; exact Option.some.inj ea2
      have i0 : (0 : Int) ≤ (k : Int) := by omega
      have i1 : (k : Int) < n := by omega
      clear hb ea ea2 hla hlb
      go_upto_region 6 with fail
      refine rg_begin (S := fun w' => (w'.cell? (ad.add (k * 5)) = some (.int .i64 a.st) ∧ w'.cell? ⟨(ad.add (k * 5)).block, (ad.add (k * 5)).off + 1, none⟩ = some (.int .u32 a.ad) ∧ w'.cell? ⟨(ad.add (k * 5)).block, (ad.add (k * 5)).off + 2, none⟩ = some (.int .u8 a.kd) ∧ w'.cell? ⟨(ad.add (k * 5)).block, (ad.add (k * 5)).off + 3, none⟩ = some (.bool a.wr) ∧ w'.cell? ⟨(ad.add (k * 5)).block, (ad.add (k * 5)).off + 4, none⟩ = some (.int .u8 a.dt)) ∧ (w'.cell? (ad2.add (k * 5)) = some (.int .i64 a.st) ∧ w'.cell? ⟨(ad2.add (k * 5)).block, (ad2.add (k * 5)).off + 1, none⟩ = some (.int .u32 a.ad) ∧ w'.cell? ⟨(ad2.add (k * 5)).block, (ad2.add (k * 5)).off + 2, none⟩ = some (.int .u8 a.kd) ∧ w'.cell? ⟨(ad2.add (k * 5)).block, (ad2.add (k * 5)).off + 3, none⟩ = some (.bool a.wr) ∧ w'.cell? ⟨(ad2.add (k * 5)).block, (ad2.add (k * 5)).off + 4, none⟩ = some (.int .u8 a.dt))) 9 #[false, false, false, false, false, false, false, false, false] (by kernel_rfl) (by kernel_rfl) (by kernel_rfl) ?_ (fun hHeld => ?_)
      · exact ⟨⟨q0, q1, q2, q3, q4⟩, r0, r1, r2, r3, r4⟩
      refine rg_take (i := 0) (d := some 17) (l := #[true, false, false, false, false, false, false, false, false]) (fuel := 8) (v := ?_) rfl (by kernel_rfl) (by kernel_rfl) (by kernel_rfl) (by kernel_rfl) (by kernel_rfl) (fun _ _ _ h => h) (by kernel_rfl) ?_ (by assumption) ?_
      rotate_left 1
      · (intro wS hSw; (try dsimp only at hSw); go_simp; try with_reducible rfl)
      try simp only [Act.put, List.setIfInBounds_toArray, List.set_cons_zero, List.set_cons_succ]
      refine rg_take (i := 1) (d := some 18) (l := #[true, true, false, false, false, false, false, false, false]) (fuel := 7) (v := ?_) rfl (by kernel_rfl) (by kernel_rfl) (by kernel_rfl) (by kernel_rfl) (by kernel_rfl) (fun _ _ _ h => h) (by kernel_rfl) ?_ (by assumption) ?_
      rotate_left 1
      · (intro wS hSw; (try dsimp only at hSw); go_simp; try with_reducible rfl)
      try simp only [Act.put, List.setIfInBounds_toArray, List.set_cons_zero, List.set_cons_succ]
      refine rg_take (i := 2) (d := some 19) (l := #[true, true, true, false, false, false, false, false, false]) (fuel := 6) (v := ?_) rfl (by kernel_rfl) (by kernel_rfl) (by kernel_rfl) (by kernel_rfl) (by kernel_rfl) (fun _ _ _ h => h) (by kernel_rfl) ?_ (by assumption) ?_
      rotate_left 1
      · (intro wS hSw; (try dsimp only at hSw); go_simp; try with_reducible rfl)
      try simp only [Act.put, List.setIfInBounds_toArray, List.set_cons_zero, List.set_cons_succ]
      refine rg_take (i := 3) (d := some 20) (l := #[true, true, true, true, false, false, false, false, false]) (fuel := 5) (v := ?_) rfl (by kernel_rfl) (by kernel_rfl) (by kernel_rfl) (by kernel_rfl) (by kernel_rfl) (fun _ _ _ h => h) (by kernel_rfl) ?_ (by assumption) ?_
      rotate_left 1
      · (intro wS hSw; (try dsimp only at hSw); go_simp; try with_reducible rfl)
      try simp only [Act.put, List.setIfInBounds_toArray, List.set_cons_zero, List.set_cons_succ]
      refine rg_take (i := 4) (d := some 21) (l := #[true, true, true, true, true, false, false, false, false]) (fuel := 4) (v := ?_) rfl (by kernel_rfl) (by kernel_rfl) (by kernel_rfl) (by kernel_rfl) (by kernel_rfl) (fun _ _ _ h => h) (by kernel_rfl) ?_ (by assumption) ?_
      rotate_left 1
      · (intro wS hSw; (try dsimp only at hSw); go_simp; try with_reducible rfl)
      try simp only [Act.put, List.setIfInBounds_toArray, List.set_cons_zero, List.set_cons_succ]
      refine rg_take (i := 5) (d := some 22) (l := #[true, true, true, true, true, true, false, false, false]) (fuel := 3) (v := ?_) rfl (by kernel_rfl) (by kernel_rfl) (by kernel_rfl) (by kernel_rfl) (by kernel_rfl) (fun _ _ _ h => h) (by kernel_rfl) ?_ (by assumption) ?_
      rotate_left 1
      · (intro wS hSw; (try dsimp only at hSw); go_simp; try with_reducible rfl)
      try simp only [Act.put, List.setIfInBounds_toArray, List.set_cons_zero, List.set_cons_succ]
      refine rg_take (i := 6) (d := some 23) (l := #[true, true, true, true, true, true, true, false, false]) (fuel := 2) (v := ?_) rfl (by kernel_rfl) (by kernel_rfl) (by kernel_rfl) (by kernel_rfl) (by kernel_rfl) (fun _ _ _ h => h) (by kernel_rfl) ?_ (by assumption) ?_
      rotate_left 1
      · (intro wS hSw; (try dsimp only at hSw); go_simp; try with_reducible rfl)
      try simp only [Act.put, List.setIfInBounds_toArray, List.set_cons_zero, List.set_cons_succ]
      refine rg_take (i := 7) (d := some 24) (l := #[true, true, true, true, true, true, true, true, false]) (fuel := 1) (v := ?_) rfl (by kernel_rfl) (by kernel_rfl) (by kernel_rfl) (by kernel_rfl) (by kernel_rfl) (fun _ _ _ h => h) (by kernel_rfl) ?_ (by assumption) ?_
      rotate_left 1
      · (intro wS hSw; (try dsimp only at hSw); go_simp; try with_reducible rfl)
      try simp only [Act.put, List.setIfInBounds_toArray, List.set_cons_zero, List.set_cons_succ]
      refine rg_take (i := 8) (d := some 25) (l := #[true, true, true, true, true, true, true, true, true]) (fuel := 0) (v := ?_) rfl (by kernel_rfl) (by kernel_rfl) (by kernel_rfl) (by kernel_rfl) (by kernel_rfl) (fun _ _ _ h => h) (by kernel_rfl) ?_ (by assumption) ?_
      rotate_left 1
      · (intro wS hSw; (try dsimp only at hSw); go_simp; try with_reducible rfl)
      try simp only [Act.put, List.setIfInBounds_toArray, List.set_cons_zero, List.set_cons_succ]
      refine wpAnyH_done (by kernel_rfl) ?_ _
      clear hHeld q0 q1 q2 q3 q4 r0 r1 r2 r3 r4
      go_wp2_with fail
      go_roundw
      case rel => exact ⟨k + 1, by omega, by go_num, HB.out.drew⟩
      case measure => simp [intOf]; omega
    · obtain rfl : k = n := by omega
      go_wp2_with fail
      go_ret
      exact ⟨rfl, HB.out⟩
end Go.Proofs.YtngfmofjonleeaaGreat
namespace Go.Proofs.YtngfmofjonleeaaGreat
open Go.RowKit
set_option linter.unusedVariables false
set_option linter.unusedSimpArgs false
set_option maxRecDepth 100000
def RbNewR (W : World) (d : Hd) (Q : Rbp → Prop) (s : Bs) (w : World) (g : Nat) (w' : World) : Prop :=
  ∃ q, Q q ∧ RBU W w' g d q s false ∧ Below w.heap.size w w' ∧ w.heap.size ≤ g ∧ w.heap.size ≤ q.m ∧ w.heap.size ≤ q.c ∧ q.tr = .slice none 0 0
section
variable {W w w3 : World} {p : Nat} {d : Hd} {J : Rr} {Z : Rz} {x : Hp} {A : Option Addr} {n c : Nat} {z : Nat → Int} {bu : Int} {rv : Value} {m k : Nat}
theorem bud_lo (h1 : bu < 0) : bud bu = 0 := by unfold bud; (repeat' split) <;> omega
theorem bud_hi (h1 : ¬ bu < 0) (h2 : 1099511627776 < bu) : bud bu = 1099511627776 := by unfold bud; (repeat' split) <;> omega
theorem bud_in (h1 : ¬ bu < 0) (h2 : ¬ 1099511627776 < bu) : bud bu = bu := by unfold bud; (repeat' split) <;> omega
theorem zeros_at : BAt (List.replicate 8192 (.int .u8 0)) (fun _ => 0) := fun i hi => by rw [List.getElem?_replicate, if_pos hi]
theorem rbnew_mk (bw : Below W.heap.size W w) (hm : Blk w3 m 5 (Array.replicate 8192 (.int .u8 0))) (hk : Blk w3 k 161 (rk (heldI 0) 0 false false false)) (hp : RHp w3 p d J Z x) (hb : Below w.heap.size w w3)
    (m0 : w.heap.size ≤ m) (k0 : w.heap.size ≤ k) (hnew : ∀ y ∈ J.all p, W.heap.size ≤ y) (R : IRow w .u8 A n z) (hA : ∀ ad, A = some ad → (∃ C, Blk w ad.block 5 C) ∧ ad.block ∉ J.all p) (hnc : n ≤ c ∧ c ≤ maxLen) {b : Int} (eb : bud bu = b) :
    RbNewR W d (fun q => q.p = p ∧ q.J = J ∧ q.Z = Z ∧ q.A = A ∧ q.ca = c) (Bs.new rv n z x bu) w w3.heap.size (w3.alloc (.cells #[.slice A n c, .slice (some ⟨m, 0, none⟩) 8192 8192, .pointer (some ⟨p, 0, none⟩), .pointer (some ⟨k, 0, none⟩), .int .i64 b, .bool false, .slice none 0 0] 56)) := by
  have ka : Kp [] w3 (w3.alloc (.cells #[.slice A n c, .slice (some ⟨m, 0, none⟩) 8192 8192, .pointer (some ⟨p, 0, none⟩), .pointer (some ⟨k, 0, none⟩), .int .i64 b, .bool false, .slice none 0 0] 56)) := (Kp.refl _ _).alloc _
  have hW := bw.size
  have hw := hb.size
  subst eb
  refine ⟨⟨A, c, m, 8192, p, J, Z, k, .slice none 0 0⟩, ⟨rfl, rfl, rfl, rfl, rfl⟩, ⟨Blk.new_ rfl, ⟨List.replicate 8192 (.int .u8 0), ?_, zeros_at⟩, (hk.alloc _), hp.kp0 ka, World.ownsRow_nil _ _ _ _, (bw.trans (hb.mono hW)).alloc (by omega) _, ?_, (R.keep hb).kp ka (by simp), ?_, (fun h => by cases h), ⟨Nat.le_refl _, by show 8192 ≤ maxLen; unfold maxLen; omega, hnc.1, hnc.2⟩⟩, hb.alloc (by omega) _, by omega, m0, k0, rfl⟩
  · rw [List.toArray_replicate]; exact hm.alloc _
  · intro y hy
    rcases mem_rbL.1 hy with e | e | e | e | e
    · rw [e]; omega
    · rw [e]; show W.heap.size ≤ m; omega
    · rw [e]; show W.heap.size ≤ k; omega
    · exact hnew y e
    · cases e
  · intro ad e
    obtain ⟨⟨C, hC⟩, a2⟩ := hA ad e
    have a1 := hC.lt
    refine ⟨⟨C, (hC.below hb a1).kp ka (by simp)⟩, fun hy => ?_⟩
    rcases mem_rbL.1 hy with e | e | e | e | e
    · omega
    · have e : ad.block = m := e; omega
    · have e : ad.block = k := e; omega
    · exact a2 e
    · cases e
set_option maxHeartbeats 8000000 in
theorem rbnew_any (hp : RHp w p d J Z x) (bw : Below W.heap.size W w) (hnew : ∀ y ∈ J.all p, W.heap.size ≤ y) (R : IRow w .u8 A n z) (hA : ∀ ad, A = some ad → (∃ C, Blk w ad.block 5 C) ∧ ad.block ∉ J.all p) (hnc : n ≤ c ∧ c ≤ maxLen) (rv : Value) (b0 : -9223372036854775808 ≤ bu) (b1 : bu ≤ 9223372036854775807) :
    Calls Tryz.prog 8 #[.slice A n c, .pointer (some ⟨p, 0, none⟩), .int .i64 bu] w fun e w' => ∃ g, e = .returned (.pointer (some ⟨g, 0, none⟩)) ∧ RbNewR W d (fun q => q.p = p ∧ q.J = J ∧ q.Z = Z ∧ q.A = A ∧ q.ca = c) (Bs.new rv n z x bu) w g w' := by
  have MB : ∀ W : World, (Instr.makeSlice 34 (.int .i64 8192) (.int .i64 8192)).run Tryz.prog W = .ok (.slice (some ⟨W.heap.size, 0, none⟩) 8192 8192) (W.alloc (.cells (Array.replicate 8192 (.int .u8 0)) 5)) := fun W => make_bytes 8192 (by decide) W
  have HP := Lib.hid hp
  have BW := Lib.hid bw
  have HNEW := Lib.hid hnew
  have HROW := Lib.hid R
  have HRA := Lib.hid hA
  clear hp bw hnew R hA
  by_cases h1 : bu < 0
  · have eb : bud bu = 0 := bud_lo h1
    have EB := Lib.hid eb
    clear eb
    go_enter Tryz.func8, Tryz.ntmps8
    go_upto_region 5 with fail
    refine rg_begin (S := fun w' => True) 8 #[false, false, false, false, false, false, false, false] (by kernel_rfl) (by kernel_rfl) (by kernel_rfl) ?_ (fun hHeld => ?_)
    · all_goals trivial
    obtain ⟨sz, hsz⟩ : ∃ sz, w.drew.heap.size = sz := ⟨_, rfl⟩
    have BD : Hid (w.heap.size = sz) := Lib.hid hsz
    have B0 : Hid (Below w.heap.size w w.drew) := Lib.hid ((Below.refl _ _).drew)
    have HP0 := Lib.hid (HP.out.kp0 (Kp.refl [] _).drew)
    generalize World.drew w = wD at *
    refine rg_take (i := 0) (d := some 11) (l := #[true, false, false, false, false, false, false, false]) (fuel := 7) (v := ?_) rfl (by kernel_rfl) (by kernel_rfl) (by kernel_rfl) (by kernel_rfl) (by kernel_rfl) (fun _ _ _ h => h) (by kernel_rfl) ?_ (by assumption) ?_
    rotate_left 1
    · (intro wS hSw; (try dsimp only at hSw); go_simp; try with_reducible rfl)
    try simp only [Act.put, List.setIfInBounds_toArray, List.set_cons_zero, List.set_cons_succ]
    refine rg_take (i := 2) (d := some 13) (l := #[true, false, true, false, false, false, false, false]) (fuel := 6) (v := ?_) rfl (by kernel_rfl) (by kernel_rfl) (by kernel_rfl) (by kernel_rfl) (by kernel_rfl) (fun _ _ _ h => h) (by kernel_rfl) ?_ (by assumption) ?_
    rotate_left 1
    · (intro wS hSw; (try dsimp only at hSw); go_simp; try with_reducible rfl)
    try simp only [Act.put, List.setIfInBounds_toArray, List.set_cons_zero, List.set_cons_succ]
    refine rg_take (i := 4) (d := some 15) (l := #[true, false, true, false, true, false, false, false]) (fuel := 5) (v := ?_) rfl (by kernel_rfl) (by kernel_rfl) (by kernel_rfl) (by kernel_rfl) (by kernel_rfl) (fun _ _ _ h => h) (by kernel_rfl) ?_ (by assumption) ?_
    rotate_left 1
    · (intro wS hSw; (try dsimp only at hSw); go_simp; try with_reducible rfl)
    try simp only [Act.put, List.setIfInBounds_toArray, List.set_cons_zero, List.set_cons_succ]
    refine rg_of (rs := [1, 3]) (fuel := 4) (by kernel_rfl) rfl ?_
    refine rg_step (i := 1) (l := #[true, true, true, false, true, false, false, false]) rfl (by kernel_rfl) (by kernel_rfl) ?_ ?_
    · intro K hK
      go_simp
      skip
      first | (refine hK.out _ _ ?_ (fun hHeld => ?_)) | (go_wp2_with fail; refine hK.out _ _ ?_ (fun hHeld => ?_))
      · (try dsimp only); all_goals trivial
      clear hK K
      try simp only [Act.put, List.setIfInBounds_toArray, List.set_cons_zero, List.set_cons_succ]
      have HM1 := Lib.hid (Blk.new wD 5 (Array.replicate 8192 (.int .u8 0)))
      have B1 := Lib.hid (B0.out.alloc B0.out.size (.cells (Array.replicate 8192 (.int .u8 0)) 5))
      have HP1 := Lib.hid (HP0.out.kp0 ((Kp.refl _ _).alloc (.cells (Array.replicate 8192 (.int .u8 0)) 5)))
      rw [hsz] at HM1
      generalize World.alloc wD _ = w1 at *
      refine rg_next (i := 3) (l := #[true, true, true, true, true, false, false, false]) (fuel := 3) (by kernel_rfl) rfl (by kernel_rfl) (by kernel_rfl) (fun K hK => ?_)
      go_simp
      (go_at_call 32)
      refine (rat_new 0 false _).mono ?_
      rintro e w2 ⟨rfl, hk2, b2⟩
      obtain ⟨ck, hck⟩ : ∃ ck, w1.heap.size = ck := ⟨_, rfl⟩
      rw [hck] at hk2
      have B2 := Lib.hid (B1.out.trans (b2.mono B1.out.size))
      have HM2 := Lib.hid (HM1.out.below b2 HM1.out.lt)
      have HP2 := Lib.hid (HP1.out.keep b2)
      have HK2 := Lib.hid hk2
      have HC2 : Hid (w.heap.size ≤ ck) := Lib.hid (hck ▸ B1.out.size)
      clear b2 hk2
      first | (refine hK.out _ _ ?_ (fun hHeld => ?_)) | (go_wp2_with fail; refine hK.out _ _ ?_ (fun hHeld => ?_))
      · (try dsimp only); all_goals trivial
      clear hK K
      try simp only [Act.put, List.setIfInBounds_toArray, List.set_cons_zero, List.set_cons_succ]
      refine rg_take (i := 5) (d := some 16) (l := #[true, true, true, true, true, true, false, false]) (fuel := 2) (v := ?_) rfl (by kernel_rfl) (by kernel_rfl) (by kernel_rfl) (by kernel_rfl) (by kernel_rfl) (fun _ _ _ h => h) (by kernel_rfl) ?_ (by assumption) ?_
      rotate_left 1
      · (intro wS hSw; (try dsimp only at hSw); go_simp; try with_reducible rfl)
      try simp only [Act.put, List.setIfInBounds_toArray, List.set_cons_zero, List.set_cons_succ]
      have H6 := Lib.hid (rbnew_mk (w := w) (W := W) (rv := rv) (bu := bu) BW.out HM2.out HK2.out HP2.out B2.out (by rw [BD.out]; exact Nat.le_refl _) (by rw [BD.out]; exact (BD.out ▸ HC2.out)) HNEW.out HROW.out HRA.out hnc EB.out)
      clear HM2 HK2 HP2 B2
      refine rg_next (i := 6) (l := #[true, true, true, true, true, true, true, false]) (fuel := 1) (by kernel_rfl) rfl (by kernel_rfl) (by kernel_rfl) (fun K hK => ?_)
      go_simp
      skip
      first | (refine hK.out _ _ ?_ (fun hHeld => ?_)) | (go_wp2_with fail; refine hK.out _ _ ?_ (fun hHeld => ?_))
      · (try dsimp only); all_goals trivial
      clear hK K
      try simp only [Act.put, List.setIfInBounds_toArray, List.set_cons_zero, List.set_cons_succ]
      refine rg_take (i := 7) (d := some 6) (l := #[true, true, true, true, true, true, true, true]) (fuel := 0) (v := ?_) rfl (by kernel_rfl) (by kernel_rfl) (by kernel_rfl) (by kernel_rfl) (by kernel_rfl) (fun _ _ _ h => h) (by kernel_rfl) ?_ (by assumption) ?_
      rotate_left 1
      · (intro wS hSw; (try dsimp only at hSw); go_simp; try with_reducible rfl)
      try simp only [Act.put, List.setIfInBounds_toArray, List.set_cons_zero, List.set_cons_succ]
      refine wpAnyH_done (by kernel_rfl) ?_ _
      go_wp2_with fail
      go_ret
      exact ⟨_, rfl, H6.out⟩
    refine rg_step (i := 3) (l := #[true, false, true, true, true, false, false, false]) rfl (by kernel_rfl) (by kernel_rfl) ?_ ?_
    · intro K hK
      go_simp
      (go_at_call 32)
      refine (rat_new 0 false _).mono ?_
      rintro e w1 ⟨rfl, hk1, b1⟩
      rw [hsz] at hk1
      have B1 := Lib.hid (B0.out.trans (b1.mono B0.out.size))
      have HP1 := Lib.hid (HP0.out.keep b1)
      have HK1 := Lib.hid hk1
      clear b1 hk1
      first | (refine hK.out _ _ ?_ (fun hHeld => ?_)) | (go_wp2_with fail; refine hK.out _ _ ?_ (fun hHeld => ?_))
      · (try dsimp only); all_goals trivial
      clear hK K
      try simp only [Act.put, List.setIfInBounds_toArray, List.set_cons_zero, List.set_cons_succ]
      refine rg_next (i := 1) (l := #[true, true, true, true, true, false, false, false]) (fuel := 3) (by kernel_rfl) rfl (by kernel_rfl) (by kernel_rfl) (fun K hK => ?_)
      go_simp
      skip
      first | (refine hK.out _ _ ?_ (fun hHeld => ?_)) | (go_wp2_with fail; refine hK.out _ _ ?_ (fun hHeld => ?_))
      · (try dsimp only); all_goals trivial
      clear hK K
      try simp only [Act.put, List.setIfInBounds_toArray, List.set_cons_zero, List.set_cons_succ]
      obtain ⟨ms, hms⟩ : ∃ ms, w1.heap.size = ms := ⟨_, rfl⟩
      have HC2 : Hid (w.heap.size ≤ ms) := Lib.hid (hms ▸ B1.out.size)
      have HM2 := Lib.hid (Blk.new w1 5 (Array.replicate 8192 (.int .u8 0)))
      rw [hms] at HM2
      have B2 := Lib.hid (B1.out.alloc B1.out.size (.cells (Array.replicate 8192 (.int .u8 0)) 5))
      have HP2 := Lib.hid (HP1.out.kp0 ((Kp.refl _ _).alloc (.cells (Array.replicate 8192 (.int .u8 0)) 5)))
      have HK2 := Lib.hid (HK1.out.alloc (.cells (Array.replicate 8192 (.int .u8 0)) 5))
      generalize World.alloc w1 _ = w2 at *
      refine rg_take (i := 5) (d := some 16) (l := #[true, true, true, true, true, true, false, false]) (fuel := 2) (v := ?_) rfl (by kernel_rfl) (by kernel_rfl) (by kernel_rfl) (by kernel_rfl) (by kernel_rfl) (fun _ _ _ h => h) (by kernel_rfl) ?_ (by assumption) ?_
      rotate_left 1
      · (intro wS hSw; (try dsimp only at hSw); go_simp; try with_reducible rfl)
      try simp only [Act.put, List.setIfInBounds_toArray, List.set_cons_zero, List.set_cons_succ]
      have H6 := Lib.hid (rbnew_mk (w := w) (W := W) (rv := rv) (bu := bu) BW.out HM2.out HK2.out HP2.out B2.out (by rw [BD.out]; exact (BD.out ▸ HC2.out)) (by rw [BD.out]; exact Nat.le_refl _) HNEW.out HROW.out HRA.out hnc EB.out)
      clear HM2 HK2 HP2 B2
      refine rg_next (i := 6) (l := #[true, true, true, true, true, true, true, false]) (fuel := 1) (by kernel_rfl) rfl (by kernel_rfl) (by kernel_rfl) (fun K hK => ?_)
      go_simp
      skip
      first | (refine hK.out _ _ ?_ (fun hHeld => ?_)) | (go_wp2_with fail; refine hK.out _ _ ?_ (fun hHeld => ?_))
      · (try dsimp only); all_goals trivial
      clear hK K
      try simp only [Act.put, List.setIfInBounds_toArray, List.set_cons_zero, List.set_cons_succ]
      refine rg_take (i := 7) (d := some 6) (l := #[true, true, true, true, true, true, true, true]) (fuel := 0) (v := ?_) rfl (by kernel_rfl) (by kernel_rfl) (by kernel_rfl) (by kernel_rfl) (by kernel_rfl) (fun _ _ _ h => h) (by kernel_rfl) ?_ (by assumption) ?_
      rotate_left 1
      · (intro wS hSw; (try dsimp only at hSw); go_simp; try with_reducible rfl)
      try simp only [Act.put, List.setIfInBounds_toArray, List.set_cons_zero, List.set_cons_succ]
      refine wpAnyH_done (by kernel_rfl) ?_ _
      go_wp2_with fail
      go_ret
      exact ⟨_, rfl, H6.out⟩
    exact AllReadyH.nil
  by_cases h2 : 1099511627776 < bu
  · have eb : bud bu = 1099511627776 := bud_hi h1 h2
    have EB := Lib.hid eb
    clear eb
    go_enter Tryz.func8, Tryz.ntmps8
    go_upto_region 5 with fail
    refine rg_begin (S := fun w' => True) 8 #[false, false, false, false, false, false, false, false] (by kernel_rfl) (by kernel_rfl) (by kernel_rfl) ?_ (fun hHeld => ?_)
    · all_goals trivial
    obtain ⟨sz, hsz⟩ : ∃ sz, w.drew.heap.size = sz := ⟨_, rfl⟩
    have BD : Hid (w.heap.size = sz) := Lib.hid hsz
    have B0 : Hid (Below w.heap.size w w.drew) := Lib.hid ((Below.refl _ _).drew)
    have HP0 := Lib.hid (HP.out.kp0 (Kp.refl [] _).drew)
    generalize World.drew w = wD at *
    refine rg_take (i := 0) (d := some 11) (l := #[true, false, false, false, false, false, false, false]) (fuel := 7) (v := ?_) rfl (by kernel_rfl) (by kernel_rfl) (by kernel_rfl) (by kernel_rfl) (by kernel_rfl) (fun _ _ _ h => h) (by kernel_rfl) ?_ (by assumption) ?_
    rotate_left 1
    · (intro wS hSw; (try dsimp only at hSw); go_simp; try with_reducible rfl)
    try simp only [Act.put, List.setIfInBounds_toArray, List.set_cons_zero, List.set_cons_succ]
    refine rg_take (i := 2) (d := some 13) (l := #[true, false, true, false, false, false, false, false]) (fuel := 6) (v := ?_) rfl (by kernel_rfl) (by kernel_rfl) (by kernel_rfl) (by kernel_rfl) (by kernel_rfl) (fun _ _ _ h => h) (by kernel_rfl) ?_ (by assumption) ?_
    rotate_left 1
    · (intro wS hSw; (try dsimp only at hSw); go_simp; try with_reducible rfl)
    try simp only [Act.put, List.setIfInBounds_toArray, List.set_cons_zero, List.set_cons_succ]
    refine rg_take (i := 4) (d := some 15) (l := #[true, false, true, false, true, false, false, false]) (fuel := 5) (v := ?_) rfl (by kernel_rfl) (by kernel_rfl) (by kernel_rfl) (by kernel_rfl) (by kernel_rfl) (fun _ _ _ h => h) (by kernel_rfl) ?_ (by assumption) ?_
    rotate_left 1
    · (intro wS hSw; (try dsimp only at hSw); go_simp; try with_reducible rfl)
    try simp only [Act.put, List.setIfInBounds_toArray, List.set_cons_zero, List.set_cons_succ]
    refine rg_of (rs := [1, 3]) (fuel := 4) (by kernel_rfl) rfl ?_
    refine rg_step (i := 1) (l := #[true, true, true, false, true, false, false, false]) rfl (by kernel_rfl) (by kernel_rfl) ?_ ?_
    · intro K hK
      go_simp
      skip
      first | (refine hK.out _ _ ?_ (fun hHeld => ?_)) | (go_wp2_with fail; refine hK.out _ _ ?_ (fun hHeld => ?_))
      · (try dsimp only); all_goals trivial
      clear hK K
      try simp only [Act.put, List.setIfInBounds_toArray, List.set_cons_zero, List.set_cons_succ]
      have HM1 := Lib.hid (Blk.new wD 5 (Array.replicate 8192 (.int .u8 0)))
      have B1 := Lib.hid (B0.out.alloc B0.out.size (.cells (Array.replicate 8192 (.int .u8 0)) 5))
      have HP1 := Lib.hid (HP0.out.kp0 ((Kp.refl _ _).alloc (.cells (Array.replicate 8192 (.int .u8 0)) 5)))
      rw [hsz] at HM1
      generalize World.alloc wD _ = w1 at *
      refine rg_next (i := 3) (l := #[true, true, true, true, true, false, false, false]) (fuel := 3) (by kernel_rfl) rfl (by kernel_rfl) (by kernel_rfl) (fun K hK => ?_)
      go_simp
      (go_at_call 32)
      refine (rat_new 0 false _).mono ?_
      rintro e w2 ⟨rfl, hk2, b2⟩
      obtain ⟨ck, hck⟩ : ∃ ck, w1.heap.size = ck := ⟨_, rfl⟩
      rw [hck] at hk2
      have B2 := Lib.hid (B1.out.trans (b2.mono B1.out.size))
      have HM2 := Lib.hid (HM1.out.below b2 HM1.out.lt)
      have HP2 := Lib.hid (HP1.out.keep b2)
      have HK2 := Lib.hid hk2
      have HC2 : Hid (w.heap.size ≤ ck) := Lib.hid (hck ▸ B1.out.size)
      clear b2 hk2
      first | (refine hK.out _ _ ?_ (fun hHeld => ?_)) | (go_wp2_with fail; refine hK.out _ _ ?_ (fun hHeld => ?_))
      · (try dsimp only); all_goals trivial
      clear hK K
      try simp only [Act.put, List.setIfInBounds_toArray, List.set_cons_zero, List.set_cons_succ]
      refine rg_take (i := 5) (d := some 16) (l := #[true, true, true, true, true, true, false, false]) (fuel := 2) (v := ?_) rfl (by kernel_rfl) (by kernel_rfl) (by kernel_rfl) (by kernel_rfl) (by kernel_rfl) (fun _ _ _ h => h) (by kernel_rfl) ?_ (by assumption) ?_
      rotate_left 1
      · (intro wS hSw; (try dsimp only at hSw); go_simp; try with_reducible rfl)
      try simp only [Act.put, List.setIfInBounds_toArray, List.set_cons_zero, List.set_cons_succ]
      have H6 := Lib.hid (rbnew_mk (w := w) (W := W) (rv := rv) (bu := bu) BW.out HM2.out HK2.out HP2.out B2.out (by rw [BD.out]; exact Nat.le_refl _) (by rw [BD.out]; exact (BD.out ▸ HC2.out)) HNEW.out HROW.out HRA.out hnc EB.out)
      clear HM2 HK2 HP2 B2
      refine rg_next (i := 6) (l := #[true, true, true, true, true, true, true, false]) (fuel := 1) (by kernel_rfl) rfl (by kernel_rfl) (by kernel_rfl) (fun K hK => ?_)
      go_simp
      skip
      first | (refine hK.out _ _ ?_ (fun hHeld => ?_)) | (go_wp2_with fail; refine hK.out _ _ ?_ (fun hHeld => ?_))
      · (try dsimp only); all_goals trivial
      clear hK K
      try simp only [Act.put, List.setIfInBounds_toArray, List.set_cons_zero, List.set_cons_succ]
      refine rg_take (i := 7) (d := some 6) (l := #[true, true, true, true, true, true, true, true]) (fuel := 0) (v := ?_) rfl (by kernel_rfl) (by kernel_rfl) (by kernel_rfl) (by kernel_rfl) (by kernel_rfl) (fun _ _ _ h => h) (by kernel_rfl) ?_ (by assumption) ?_
      rotate_left 1
      · (intro wS hSw; (try dsimp only at hSw); go_simp; try with_reducible rfl)
      try simp only [Act.put, List.setIfInBounds_toArray, List.set_cons_zero, List.set_cons_succ]
      refine wpAnyH_done (by kernel_rfl) ?_ _
      go_wp2_with fail
      go_ret
      exact ⟨_, rfl, H6.out⟩
    refine rg_step (i := 3) (l := #[true, false, true, true, true, false, false, false]) rfl (by kernel_rfl) (by kernel_rfl) ?_ ?_
    · intro K hK
      go_simp
      (go_at_call 32)
      refine (rat_new 0 false _).mono ?_
      rintro e w1 ⟨rfl, hk1, b1⟩
      rw [hsz] at hk1
      have B1 := Lib.hid (B0.out.trans (b1.mono B0.out.size))
      have HP1 := Lib.hid (HP0.out.keep b1)
      have HK1 := Lib.hid hk1
      clear b1 hk1
      first | (refine hK.out _ _ ?_ (fun hHeld => ?_)) | (go_wp2_with fail; refine hK.out _ _ ?_ (fun hHeld => ?_))
      · (try dsimp only); all_goals trivial
      clear hK K
      try simp only [Act.put, List.setIfInBounds_toArray, List.set_cons_zero, List.set_cons_succ]
      refine rg_next (i := 1) (l := #[true, true, true, true, true, false, false, false]) (fuel := 3) (by kernel_rfl) rfl (by kernel_rfl) (by kernel_rfl) (fun K hK => ?_)
      go_simp
      skip
      first | (refine hK.out _ _ ?_ (fun hHeld => ?_)) | (go_wp2_with fail; refine hK.out _ _ ?_ (fun hHeld => ?_))
      · (try dsimp only); all_goals trivial
      clear hK K
      try simp only [Act.put, List.setIfInBounds_toArray, List.set_cons_zero, List.set_cons_succ]
      obtain ⟨ms, hms⟩ : ∃ ms, w1.heap.size = ms := ⟨_, rfl⟩
      have HC2 : Hid (w.heap.size ≤ ms) := Lib.hid (hms ▸ B1.out.size)
      have HM2 := Lib.hid (Blk.new w1 5 (Array.replicate 8192 (.int .u8 0)))
      rw [hms] at HM2
      have B2 := Lib.hid (B1.out.alloc B1.out.size (.cells (Array.replicate 8192 (.int .u8 0)) 5))
      have HP2 := Lib.hid (HP1.out.kp0 ((Kp.refl _ _).alloc (.cells (Array.replicate 8192 (.int .u8 0)) 5)))
      have HK2 := Lib.hid (HK1.out.alloc (.cells (Array.replicate 8192 (.int .u8 0)) 5))
      generalize World.alloc w1 _ = w2 at *
      refine rg_take (i := 5) (d := some 16) (l := #[true, true, true, true, true, true, false, false]) (fuel := 2) (v := ?_) rfl (by kernel_rfl) (by kernel_rfl) (by kernel_rfl) (by kernel_rfl) (by kernel_rfl) (fun _ _ _ h => h) (by kernel_rfl) ?_ (by assumption) ?_
      rotate_left 1
      · (intro wS hSw; (try dsimp only at hSw); go_simp; try with_reducible rfl)
      try simp only [Act.put, List.setIfInBounds_toArray, List.set_cons_zero, List.set_cons_succ]
      have H6 := Lib.hid (rbnew_mk (w := w) (W := W) (rv := rv) (bu := bu) BW.out HM2.out HK2.out HP2.out B2.out (by rw [BD.out]; exact (BD.out ▸ HC2.out)) (by rw [BD.out]; exact Nat.le_refl _) HNEW.out HROW.out HRA.out hnc EB.out)
      clear HM2 HK2 HP2 B2
      refine rg_next (i := 6) (l := #[true, true, true, true, true, true, true, false]) (fuel := 1) (by kernel_rfl) rfl (by kernel_rfl) (by kernel_rfl) (fun K hK => ?_)
      go_simp
      skip
      first | (refine hK.out _ _ ?_ (fun hHeld => ?_)) | (go_wp2_with fail; refine hK.out _ _ ?_ (fun hHeld => ?_))
      · (try dsimp only); all_goals trivial
      clear hK K
      try simp only [Act.put, List.setIfInBounds_toArray, List.set_cons_zero, List.set_cons_succ]
      refine rg_take (i := 7) (d := some 6) (l := #[true, true, true, true, true, true, true, true]) (fuel := 0) (v := ?_) rfl (by kernel_rfl) (by kernel_rfl) (by kernel_rfl) (by kernel_rfl) (by kernel_rfl) (fun _ _ _ h => h) (by kernel_rfl) ?_ (by assumption) ?_
      rotate_left 1
      · (intro wS hSw; (try dsimp only at hSw); go_simp; try with_reducible rfl)
      try simp only [Act.put, List.setIfInBounds_toArray, List.set_cons_zero, List.set_cons_succ]
      refine wpAnyH_done (by kernel_rfl) ?_ _
      go_wp2_with fail
      go_ret
      exact ⟨_, rfl, H6.out⟩
    exact AllReadyH.nil
  · have eb : bud bu = bu := bud_in h1 h2
    have EB := Lib.hid eb
    clear eb
    go_enter Tryz.func8, Tryz.ntmps8
    go_upto_region 5 with fail
    refine rg_begin (S := fun w' => True) 8 #[false, false, false, false, false, false, false, false] (by kernel_rfl) (by kernel_rfl) (by kernel_rfl) ?_ (fun hHeld => ?_)
    · all_goals trivial
    obtain ⟨sz, hsz⟩ : ∃ sz, w.drew.heap.size = sz := ⟨_, rfl⟩
    have BD : Hid (w.heap.size = sz) := Lib.hid hsz
    have B0 : Hid (Below w.heap.size w w.drew) := Lib.hid ((Below.refl _ _).drew)
    have HP0 := Lib.hid (HP.out.kp0 (Kp.refl [] _).drew)
    generalize World.drew w = wD at *
    refine rg_take (i := 0) (d := some 11) (l := #[true, false, false, false, false, false, false, false]) (fuel := 7) (v := ?_) rfl (by kernel_rfl) (by kernel_rfl) (by kernel_rfl) (by kernel_rfl) (by kernel_rfl) (fun _ _ _ h => h) (by kernel_rfl) ?_ (by assumption) ?_
    rotate_left 1
    · (intro wS hSw; (try dsimp only at hSw); go_simp; try with_reducible rfl)
    try simp only [Act.put, List.setIfInBounds_toArray, List.set_cons_zero, List.set_cons_succ]
    refine rg_take (i := 2) (d := some 13) (l := #[true, false, true, false, false, false, false, false]) (fuel := 6) (v := ?_) rfl (by kernel_rfl) (by kernel_rfl) (by kernel_rfl) (by kernel_rfl) (by kernel_rfl) (fun _ _ _ h => h) (by kernel_rfl) ?_ (by assumption) ?_
    rotate_left 1
    · (intro wS hSw; (try dsimp only at hSw); go_simp; try with_reducible rfl)
    try simp only [Act.put, List.setIfInBounds_toArray, List.set_cons_zero, List.set_cons_succ]
    refine rg_take (i := 4) (d := some 15) (l := #[true, false, true, false, true, false, false, false]) (fuel := 5) (v := ?_) rfl (by kernel_rfl) (by kernel_rfl) (by kernel_rfl) (by kernel_rfl) (by kernel_rfl) (fun _ _ _ h => h) (by kernel_rfl) ?_ (by assumption) ?_
    rotate_left 1
    · (intro wS hSw; (try dsimp only at hSw); go_simp; try with_reducible rfl)
    try simp only [Act.put, List.setIfInBounds_toArray, List.set_cons_zero, List.set_cons_succ]
    refine rg_of (rs := [1, 3]) (fuel := 4) (by kernel_rfl) rfl ?_
    refine rg_step (i := 1) (l := #[true, true, true, false, true, false, false, false]) rfl (by kernel_rfl) (by kernel_rfl) ?_ ?_
    · intro K hK
      go_simp
      skip
      first | (refine hK.out _ _ ?_ (fun hHeld => ?_)) | (go_wp2_with fail; refine hK.out _ _ ?_ (fun hHeld => ?_))
      · (try dsimp only); all_goals trivial
      clear hK K
      try simp only [Act.put, List.setIfInBounds_toArray, List.set_cons_zero, List.set_cons_succ]
      have HM1 := Lib.hid (Blk.new wD 5 (Array.replicate 8192 (.int .u8 0)))
      have B1 := Lib.hid (B0.out.alloc B0.out.size (.cells (Array.replicate 8192 (.int .u8 0)) 5))
      have HP1 := Lib.hid (HP0.out.kp0 ((Kp.refl _ _).alloc (.cells (Array.replicate 8192 (.int .u8 0)) 5)))
      rw [hsz] at HM1
      generalize World.alloc wD _ = w1 at *
      refine rg_next (i := 3) (l := #[true, true, true, true, true, false, false, false]) (fuel := 3) (by kernel_rfl) rfl (by kernel_rfl) (by kernel_rfl) (fun K hK => ?_)
      go_simp
      (go_at_call 32)
      refine (rat_new 0 false _).mono ?_
      rintro e w2 ⟨rfl, hk2, b2⟩
      obtain ⟨ck, hck⟩ : ∃ ck, w1.heap.size = ck := ⟨_, rfl⟩
      rw [hck] at hk2
      have B2 := Lib.hid (B1.out.trans (b2.mono B1.out.size))
      have HM2 := Lib.hid (HM1.out.below b2 HM1.out.lt)
      have HP2 := Lib.hid (HP1.out.keep b2)
      have HK2 := Lib.hid hk2
      have HC2 : Hid (w.heap.size ≤ ck) := Lib.hid (hck ▸ B1.out.size)
      clear b2 hk2
      first | (refine hK.out _ _ ?_ (fun hHeld => ?_)) | (go_wp2_with fail; refine hK.out _ _ ?_ (fun hHeld => ?_))
      · (try dsimp only); all_goals trivial
      clear hK K
      try simp only [Act.put, List.setIfInBounds_toArray, List.set_cons_zero, List.set_cons_succ]
      refine rg_take (i := 5) (d := some 16) (l := #[true, true, true, true, true, true, false, false]) (fuel := 2) (v := ?_) rfl (by kernel_rfl) (by kernel_rfl) (by kernel_rfl) (by kernel_rfl) (by kernel_rfl) (fun _ _ _ h => h) (by kernel_rfl) ?_ (by assumption) ?_
      rotate_left 1
      · (intro wS hSw; (try dsimp only at hSw); go_simp; try with_reducible rfl)
      try simp only [Act.put, List.setIfInBounds_toArray, List.set_cons_zero, List.set_cons_succ]
      have H6 := Lib.hid (rbnew_mk (w := w) (W := W) (rv := rv) (bu := bu) BW.out HM2.out HK2.out HP2.out B2.out (by rw [BD.out]; exact Nat.le_refl _) (by rw [BD.out]; exact (BD.out ▸ HC2.out)) HNEW.out HROW.out HRA.out hnc EB.out)
      clear HM2 HK2 HP2 B2
      refine rg_next (i := 6) (l := #[true, true, true, true, true, true, true, false]) (fuel := 1) (by kernel_rfl) rfl (by kernel_rfl) (by kernel_rfl) (fun K hK => ?_)
      go_simp
      skip
      first | (refine hK.out _ _ ?_ (fun hHeld => ?_)) | (go_wp2_with fail; refine hK.out _ _ ?_ (fun hHeld => ?_))
      · (try dsimp only); all_goals trivial
      clear hK K
      try simp only [Act.put, List.setIfInBounds_toArray, List.set_cons_zero, List.set_cons_succ]
      refine rg_take (i := 7) (d := some 6) (l := #[true, true, true, true, true, true, true, true]) (fuel := 0) (v := ?_) rfl (by kernel_rfl) (by kernel_rfl) (by kernel_rfl) (by kernel_rfl) (by kernel_rfl) (fun _ _ _ h => h) (by kernel_rfl) ?_ (by assumption) ?_
      rotate_left 1
      · (intro wS hSw; (try dsimp only at hSw); go_simp; try with_reducible rfl)
      try simp only [Act.put, List.setIfInBounds_toArray, List.set_cons_zero, List.set_cons_succ]
      refine wpAnyH_done (by kernel_rfl) ?_ _
      go_wp2_with fail
      go_ret
      exact ⟨_, rfl, H6.out⟩
    refine rg_step (i := 3) (l := #[true, false, true, true, true, false, false, false]) rfl (by kernel_rfl) (by kernel_rfl) ?_ ?_
    · intro K hK
      go_simp
      (go_at_call 32)
      refine (rat_new 0 false _).mono ?_
      rintro e w1 ⟨rfl, hk1, b1⟩
      rw [hsz] at hk1
      have B1 := Lib.hid (B0.out.trans (b1.mono B0.out.size))
      have HP1 := Lib.hid (HP0.out.keep b1)
      have HK1 := Lib.hid hk1
      clear b1 hk1
      first | (refine hK.out _ _ ?_ (fun hHeld => ?_)) | (go_wp2_with fail; refine hK.out _ _ ?_ (fun hHeld => ?_))
      · (try dsimp only); all_goals trivial
      clear hK K
      try simp only [Act.put, List.setIfInBounds_toArray, List.set_cons_zero, List.set_cons_succ]
      refine rg_next (i := 1) (l := #[true, true, true, true, true, false, false, false]) (fuel := 3) (by kernel_rfl) rfl (by kernel_rfl) (by kernel_rfl) (fun K hK => ?_)
      go_simp
      skip
      first | (refine hK.out _ _ ?_ (fun hHeld => ?_)) | (go_wp2_with fail; refine hK.out _ _ ?_ (fun hHeld => ?_))
      · (try dsimp only); all_goals trivial
      clear hK K
      try simp only [Act.put, List.setIfInBounds_toArray, List.set_cons_zero, List.set_cons_succ]
      obtain ⟨ms, hms⟩ : ∃ ms, w1.heap.size = ms := ⟨_, rfl⟩
      have HC2 : Hid (w.heap.size ≤ ms) := Lib.hid (hms ▸ B1.out.size)
      have HM2 := Lib.hid (Blk.new w1 5 (Array.replicate 8192 (.int .u8 0)))
      rw [hms] at HM2
      have B2 := Lib.hid (B1.out.alloc B1.out.size (.cells (Array.replicate 8192 (.int .u8 0)) 5))
      have HP2 := Lib.hid (HP1.out.kp0 ((Kp.refl _ _).alloc (.cells (Array.replicate 8192 (.int .u8 0)) 5)))
      have HK2 := Lib.hid (HK1.out.alloc (.cells (Array.replicate 8192 (.int .u8 0)) 5))
      generalize World.alloc w1 _ = w2 at *
      refine rg_take (i := 5) (d := some 16) (l := #[true, true, true, true, true, true, false, false]) (fuel := 2) (v := ?_) rfl (by kernel_rfl) (by kernel_rfl) (by kernel_rfl) (by kernel_rfl) (by kernel_rfl) (fun _ _ _ h => h) (by kernel_rfl) ?_ (by assumption) ?_
      rotate_left 1
      · (intro wS hSw; (try dsimp only at hSw); go_simp; try with_reducible rfl)
      try simp only [Act.put, List.setIfInBounds_toArray, List.set_cons_zero, List.set_cons_succ]
      have H6 := Lib.hid (rbnew_mk (w := w) (W := W) (rv := rv) (bu := bu) BW.out HM2.out HK2.out HP2.out B2.out (by rw [BD.out]; exact (BD.out ▸ HC2.out)) (by rw [BD.out]; exact Nat.le_refl _) HNEW.out HROW.out HRA.out hnc EB.out)
      clear HM2 HK2 HP2 B2
      refine rg_next (i := 6) (l := #[true, true, true, true, true, true, true, false]) (fuel := 1) (by kernel_rfl) rfl (by kernel_rfl) (by kernel_rfl) (fun K hK => ?_)
      go_simp
      skip
      first | (refine hK.out _ _ ?_ (fun hHeld => ?_)) | (go_wp2_with fail; refine hK.out _ _ ?_ (fun hHeld => ?_))
      · (try dsimp only); all_goals trivial
      clear hK K
      try simp only [Act.put, List.setIfInBounds_toArray, List.set_cons_zero, List.set_cons_succ]
      refine rg_take (i := 7) (d := some 6) (l := #[true, true, true, true, true, true, true, true]) (fuel := 0) (v := ?_) rfl (by kernel_rfl) (by kernel_rfl) (by kernel_rfl) (by kernel_rfl) (by kernel_rfl) (fun _ _ _ h => h) (by kernel_rfl) ?_ (by assumption) ?_
      rotate_left 1
      · (intro wS hSw; (try dsimp only at hSw); go_simp; try with_reducible rfl)
      try simp only [Act.put, List.setIfInBounds_toArray, List.set_cons_zero, List.set_cons_succ]
      refine wpAnyH_done (by kernel_rfl) ?_ _
      go_wp2_with fail
      go_ret
      exact ⟨_, rfl, H6.out⟩
    exact AllReadyH.nil
end
end Go.Proofs.YtngfmofjonleeaaGreat
namespace Go.Proofs.YtngfmofjonleeaaGreat
open Go.RowKit
set_option linter.unusedVariables false
set_option linter.unusedSimpArgs false
set_option maxRecDepth 100000
/-- A bus and the reference's, alike, made since W, things apart. -/
structure BX (W w : World) (g : Nat) (d : Hd) (P : Bp) (r : Nat) (Q : Rbp) (s : Bs) (nx : Bool) : Prop where
  bu : BU w g d P s
  rb : RBU W w r d Q s nx
  ap : ∀ y ∈ bL g P, y ∉ rbL r Q
  yo : ∀ u ∈ [g, P.b.v, P.b.c, P.b.p], u ≤ Q.m
  lo : ∀ y ∈ bL g P, W.heap.size ≤ y
  ar : ∀ ad, Q.A = some ad → ad.block ∉ bL g P
def bxL (g : Nat) (P : Bp) (r : Nat) (Q : Rbp) : List Nat := bL g P ++ rbL r Q
section
variable {W w w1 w2 w' : World} {g : Nat} {d : Hd} {P P' : Bp} {r : Nat} {Q : Rbp} {s s' : Bs} {nx nx' : Bool} {v v' : Value} {e e' : Ending} {t : Value}
/-- What the reference's blocks are to a bus: bytes alone in its work memory, which is younger. -/
theorem RBU.nbx (h : RBU W w r d Q s nx) {M : List Nat} (hM : ∀ u ∈ M, u ≤ Q.m) : ∀ y ∈ rbL r Q, NBx w M y := by
  intro y hy
  obtain ⟨C, hC, _⟩ := h.ram
  rcases mem_rbL.1 hy with e | e | e | e | e
  · rw [e]; exact (NB.of h.blk (by decide) (by decide)).x
  · rw [e]; exact NBx.of8 hC hM
  · rw [e]; exact (NB.of h.ck (by decide) (by decide)).x
  · obtain ⟨t, cs, hb, n1, n2, n3, n4, n5⟩ := h.typed.1 y e
    exact (NB.of hb (Ne.symm n2) (Ne.symm n5)).x
  · obtain ⟨cs, hb⟩ := h.typed.2 y e
    exact (NB.of hb (by decide) (by decide)).x
theorem BX.kp0 (h : BX W w g d P r Q s nx) (k : Kp [] w w') : BX W w' g d P r Q s nx := ⟨h.bu.kp0 k, h.rb.kp0 k, h.ap, h.yo, h.lo, h.ar⟩
theorem BX.on (h : BX W w g d P r Q s nx) (k : Below w.heap.size w w') : BX W w' g d P r Q s nx := h.kp0 (Kp.of_below k)
/-- The reference's behind a call on the bus. -/
theorem BX.ref1 (h : BX W w g d P r Q s nx) (k : Kp (bL g P) w w1) : RBU W w1 r d Q s nx := h.rb.kp k (fun y hy hy2 => h.ap y hy2 hy) h.lo h.ar
/-- Both did the same. -/
theorem BX.two (h : BX W w g d P r Q s nx) (h1 : BU w1 g d P' s') (k1 : Kp (bL g P) w w1) (f1 : ∀ y ∈ bL g P', y ∈ bL g P ∨ w.heap.size ≤ y) (q1 : P'.b = P.b)
    (h2 : RBU W w2 r d { Q with tr := t } s' nx') (k2 : Kp (rbL r Q) w1 w2) (f2 : ∀ y ∈ rbL r { Q with tr := t }, y ∈ rbL r Q ∨ w1.heap.size ≤ y) :
    BX W w2 g d P' r { Q with tr := t } s' nx' ∧ Kp (bxL g P r Q) w w2 ∧ ∀ y ∈ bxL g P' r { Q with tr := t }, y ∈ bxL g P r Q ∨ w.heap.size ≤ y := by
  have r1 := h.ref1 k1
  have hlt := h.rb.lt
  have ap1 : ∀ y ∈ bL g P', y ∉ rbL r Q := fun y hy hy2 => by
    rcases f1 y hy with e | e
    · exact h.ap y e hy2
    · have := hlt y hy2; omega
  have yo1 : ∀ u ∈ [g, P'.b.v, P'.b.c, P'.b.p], u ≤ Q.m := by rw [q1]; exact h.yo
  refine ⟨⟨h1.kpx k2 (r1.nbx yo1) ap1, h2, fun y hy hy2 => ?_, yo1, fun y hy => ?_, fun ad e hy => ?_⟩, ?_, fun y hy => ?_⟩
  · rcases f2 y hy2 with e | e
    · exact ap1 y hy e
    · have := h1.lt y hy; omega
  · rcases f1 y hy with e | e
    · exact h.lo y e
    · exact Nat.le_trans h.rb.old.size e
  · have a1 := h.rb.ralt ad e
    rcases f1 _ hy with e2 | e2
    · exact h.ar ad e e2
    · omega
  · exact (k1.mono (M := bxL g P r Q) (fun z hz => List.mem_append_left _ hz)).trans (k2.mono (M := bxL g P r Q) (fun z hz => List.mem_append_right _ hz)) (fun z hz => .inl hz)
  · rcases List.mem_append.1 hy with hy | hy
    · exact (f1 y hy).imp (fun e => List.mem_append_left _ e) id
    · exact (f2 y hy).imp (fun e => List.mem_append_right _ e) (fun e => Nat.le_trans k1.size e)
end
end Go.Proofs.YtngfmofjonleeaaGreat
namespace Go.Proofs.YtngfmofjonleeaaGreat
open Go.RowKit
set_option linter.unusedVariables false
set_option linter.unusedSimpArgs false
set_option maxRecDepth 100000
section
variable {W w : World} {g : Nat} {d : Hd} {P : Bp} {r : Nat} {Q : Rbp} {s : Bs} {nx : Bool}
end
end Go.Proofs.YtngfmofjonleeaaGreat
namespace Go.Proofs.YtngfmofjonleeaaGreat
open Go.RowKit
set_option linter.unusedVariables false
set_option linter.unusedSimpArgs false
set_option maxRecDepth 100000
section
variable {w : World} {g : Nat} {d : Hd} {P : Bp} {s : Bs}
end
end Go.Proofs.YtngfmofjonleeaaGreat
