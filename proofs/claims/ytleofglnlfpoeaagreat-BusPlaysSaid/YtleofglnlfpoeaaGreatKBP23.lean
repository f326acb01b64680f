/-
  Texts of these proofs, one behind the other: Hard5, Hard9, Hard10.
-/
import Derived.Test.YtleofglnlfpoeaaGreatKBP22
import Derived.Test.YtleofglnlfpoeaaGreatKBP20
import Derived.Test.YtleofglnlfpoeaaGreatKBP21
namespace Go.Proofs.YtleofglnlfpoeaaGreat
open Go.RowKit
set_option linter.unusedVariables false
set_option linter.unusedSimpArgs false
set_option maxRecDepth 100000
/-- What is written at a place of a kind, at its register. -/
def Hp.wr (x : Hp) (k r u : Int) : Hp :=
  if k = 5 then { x with buf := u }
  else if k = 6 then { x with tm := x.tm.wr r u, buf := u }
  else if k = 7 then { x with pt := x.pt.wr u, buf := u }
  else if k = 8 then { x with q := x.q.wr r u, buf := u }
  else x
section
variable {w : World} {g : Nat} {d : Hd} {b : Hb} {x : Hp}
set_option maxHeartbeats 4000000 in
theorem hread3 (h : HP w g d b x) (hl : x.lim 1000000) (off : Int) (o0 : 0 ≤ off) (o1 : off ≤ 65535) (hk : whereI (plA off) = 3) :
    Calls Tryz.prog 112 #[.pointer (some ⟨g, 0, none⟩), .int .u16 off] w (HpR (.int .u8 (peekI (d.nv - x.tv) (fun i => d.zv (x.tv + i)) 0)) g d b { x with tv := x.tv + 1 } [g, b.v, b.c, b.p] w) := by
    obtain ⟨a0, a1⟩ := plA_bd off o0
    have bu0 := h.ok.2.2.1.1
    have bu1 := h.ok.2.2.1.2
    have tc0 := h.ok.1.2.1
    have H := Lib.hid h
    have HK := Lib.hid hk
    have HL := Lib.hid hl
    clear h hk hl
    go_enter Tryz.func112, Tryz.ntmps112
    go_wp2_with fail
    refine (addr_v (a := plA off) (by decide) (by decide) o0 o1 rfl).mono ?_
    rintro e w' ⟨rfl, rfl⟩
    go_wp2_with fail
    refine (where_v a0 a1 HK.out).mono ?_
    rintro e w1 ⟨rfl, b1⟩
    have H1 := Lib.hid (H.out.keep b1)
    have K1 : Hid (Kp [] w w1) := Lib.hid (Kp.of_below b1)
    clear b1 H
    go_wp2_with fail
    obtain ⟨cs, q1, q2⟩ := H1.out.fdv
    have Q2 := Lib.hid q2
    refine (fpnext_any q1 (by omega) (by have := HL.out.1; omega)).mono ?_
    rintro e w2 ⟨rfl, y1, y2⟩
    have Y := Lib.hid (Q2.out _ _ _ (fp_shift y1) y2 (by simp))
    have K2 : Hid (Kp [g, b.v, b.c, b.p] w w2) := Lib.hid ((K1.out.mono (by simp)).trans (y2.mono (M := [g, b.v, b.c, b.p]) (by simp)) (fun y hy => .inl hy))
    clear y1 y2 q1 q2 Q2 cs H1 K1
    go_wp2_with fail
    go_ret
    exact ⟨rfl, Y.out, K2.out⟩
set_option maxHeartbeats 4000000 in
theorem hread4 (h : HP w g d b x) (hl : x.lim 1000000) (off : Int) (o0 : 0 ≤ off) (o1 : off ≤ 65535) (hk : whereI (plA off) = 4) :
    Calls Tryz.prog 112 #[.pointer (some ⟨g, 0, none⟩), .int .u16 off] w (HpR (.int .u8 (peekI (d.nc - x.tc) (fun i => d.zc (x.tc + i)) 0)) g d b { x with tc := x.tc + 1 } [g, b.v, b.c, b.p] w) := by
    obtain ⟨a0, a1⟩ := plA_bd off o0
    have bu0 := h.ok.2.2.1.1
    have bu1 := h.ok.2.2.1.2
    have tc0 := h.ok.1.2.1
    have H := Lib.hid h
    have HK := Lib.hid hk
    have HL := Lib.hid hl
    clear h hk hl
    go_enter Tryz.func112, Tryz.ntmps112
    go_wp2_with fail
    refine (addr_v (a := plA off) (by decide) (by decide) o0 o1 rfl).mono ?_
    rintro e w' ⟨rfl, rfl⟩
    go_wp2_with fail
    refine (where_v a0 a1 HK.out).mono ?_
    rintro e w1 ⟨rfl, b1⟩
    have H1 := Lib.hid (H.out.keep b1)
    have K1 : Hid (Kp [] w w1) := Lib.hid (Kp.of_below b1)
    clear b1 H
    go_wp2_with fail
    obtain ⟨cs, q1, q2⟩ := H1.out.fdc
    have Q2 := Lib.hid q2
    refine (fpnext_any q1 (by omega) (by have := HL.out.2.1; omega)).mono ?_
    rintro e w2 ⟨rfl, y1, y2⟩
    have Y := Lib.hid (Q2.out _ _ _ (fp_shift y1) y2 (by simp))
    have K2 : Hid (Kp [g, b.v, b.c, b.p] w w2) := Lib.hid ((K1.out.mono (by simp)).trans (y2.mono (M := [g, b.v, b.c, b.p]) (by simp)) (fun y hy => .inl hy))
    clear y1 y2 q1 q2 Q2 cs H1 K1
    go_wp2_with fail
    go_ret
    exact ⟨rfl, Y.out, K2.out⟩
set_option maxHeartbeats 4000000 in
theorem hread5 (h : HP w g d b x) (hl : x.lim 1000000) (off : Int) (o0 : 0 ≤ off) (o1 : off ≤ 65535) (hk : whereI (plA off) = 5) :
    Calls Tryz.prog 112 #[.pointer (some ⟨g, 0, none⟩), .int .u16 off] w (HpR (.int .u8 x.buf) g d b x [g, b.v, b.c, b.p] w) := by
    obtain ⟨a0, a1⟩ := plA_bd off o0
    have bu0 := h.ok.2.2.1.1
    have bu1 := h.ok.2.2.1.2
    have tc0 := h.ok.1.2.1
    have H := Lib.hid h
    have HK := Lib.hid hk
    have HL := Lib.hid hl
    clear h hk hl
    go_enter Tryz.func112, Tryz.ntmps112
    go_wp2_with fail
    refine (addr_v (a := plA off) (by decide) (by decide) o0 o1 rfl).mono ?_
    rintro e w' ⟨rfl, rfl⟩
    go_wp2_with fail
    refine (where_v a0 a1 HK.out).mono ?_
    rintro e w1 ⟨rfl, b1⟩
    have H1 := Lib.hid (H.out.keep b1)
    have K1 : Hid (Kp [] w w1) := Lib.hid (Kp.of_below b1)
    clear b1 H
    go_wp2_with fail
    refine (pvalue_any H1.out.lat.1).mono ?_
    rintro e w' ⟨rfl, rfl⟩
    go_wp2_with fail
    go_ret
    exact ⟨rfl, H1.out, K1.out.mono (by simp)⟩
set_option maxHeartbeats 4000000 in
theorem hread6 (h : HP w g d b x) (hl : x.lim 1000000) (off : Int) (o0 : 0 ≤ off) (o1 : off ≤ 65535) (hk : whereI (plA off) = 6) :
    Calls Tryz.prog 112 #[.pointer (some ⟨g, 0, none⟩), .int .u16 off] w (HpR (.int .u8 (mixI x.buf 127 x.tm.c)) g d b { x with buf := mixI x.buf 127 x.tm.c } [g, b.v, b.c, b.p] w) := by
    obtain ⟨a0, a1⟩ := plA_bd off o0
    have bu0 := h.ok.2.2.1.1
    have bu1 := h.ok.2.2.1.2
    have tc0 := h.ok.1.2.1
    have H := Lib.hid h
    have HK := Lib.hid hk
    have HL := Lib.hid hl
    clear h hk hl
    go_enter Tryz.func112, Tryz.ntmps112
    go_wp2_with fail
    refine (addr_v (a := plA off) (by decide) (by decide) o0 o1 rfl).mono ?_
    rintro e w' ⟨rfl, rfl⟩
    go_wp2_with fail
    refine (where_v a0 a1 HK.out).mono ?_
    rintro e w1 ⟨rfl, b1⟩
    have H1 := Lib.hid (H.out.keep b1)
    have K1 : Hid (Kp [] w w1) := Lib.hid (Kp.of_below b1)
    clear b1 H
    go_wp2_with fail
    have mb := mix_byte x.buf 127 x.tm.c bu0 bu1 (by decide) (by decide) (by omega) (by omega)
    have MB := Lib.hid mb
    clear mb
    refine rg_begin (S := fun w' => True) 9 #[false, false, false, false, false, false, false, false, false] (by kernel_rfl) (by kernel_rfl) (by kernel_rfl) ?_ (fun hHeld => ?_)
    · exact trivial
    refine rgt 0 (some 32) (v := ?_) rfl ?_ ?_
    rotate_left 1
    · (intro wS hSw; (try dsimp only at hSw); go_simp; try with_reducible rfl)
    refine rgt 1 (some 33) (v := ?_) rfl ?_ ?_
    rotate_left 1
    · (intro wS hSw; (try dsimp only at hSw); go_simp; try with_reducible rfl)
    refine rgt 2 (some 34) (v := ?_) rfl ?_ ?_
    rotate_left 1
    · (intro wS hSw; (try dsimp only at hSw); go_simp; try with_reducible rfl)
    refine rgt 3 (some 35) (v := ?_) rfl ?_ ?_
    rotate_left 1
    · (intro wS hSw; (try dsimp only at hSw); go_simp; try with_reducible rfl)
    refine rgt 4 (some 36) (v := ?_) rfl ?_ ?_
    rotate_left 1
    · (intro wS hSw; (try dsimp only at hSw); go_simp; try with_reducible rfl)
    refine rgt 5 (some 37) (v := ?_) rfl ?_ ?_
    rotate_left 1
    · (intro wS hSw; (try dsimp only at hSw); go_simp; try with_reducible rfl)
    try simp only [Act.put, List.setIfInBounds_toArray, List.set_cons_zero, List.set_cons_succ]
    refine rg_next (i := 6) (l := #[true, true, true, true, true, true, true, false, false]) (fuel := 2) (by kernel_rfl) rfl (by kernel_rfl) (by kernel_rfl) (fun K hK => ?_)
    go_simp
    (go_at_call 124)
    obtain ⟨cs, q1, q2⟩ := (H1.out.kp0 (Kp.refl _ _).drew).tmr
    refine (tcounter_any q1).mono ?_
    rintro e w' ⟨rfl, rfl⟩
    clear q1 q2 cs
    first | (refine hK.out _ _ ?_ (fun hHeld => ?_)) | (go_wp2_with fail; refine hK.out _ _ ?_ (fun hHeld => ?_))
    · (try dsimp only); try exact trivial
    clear hK K
    try simp only [Act.put, List.setIfInBounds_toArray, List.set_cons_zero, List.set_cons_succ]
    refine rg_next (i := 7) (l := #[true, true, true, true, true, true, true, true, false]) (fuel := 1) (by kernel_rfl) rfl (by kernel_rfl) (by kernel_rfl) (fun K hK => ?_)
    go_simp
    (go_at_call 157)
    obtain ⟨l1, l2, l3⟩ := (H1.out.kp0 (Kp.refl _ _).drew).lat
    refine (plread_any l1 l2 127 x.tm.c).mono ?_
    rintro e w2 ⟨rfl, rfl⟩
    have Y := Lib.hid (l3 _ MB.out.1 MB.out.2)
    clear l1 l2 l3
    first | (refine hK.out _ _ ?_ (fun hHeld => ?_)) | (go_wp2_with fail; refine hK.out _ _ ?_ (fun hHeld => ?_))
    · (try dsimp only); try exact trivial
    clear hK K
    refine rgt 8 (some 4) (v := ?_) rfl ?_ ?_
    rotate_left 1
    · (intro wS hSw; (try dsimp only at hSw); go_simp; try with_reducible rfl)
    try simp only [Act.put, List.setIfInBounds_toArray, List.set_cons_zero, List.set_cons_succ]
    refine wpAnyH_done (by kernel_rfl) ?_ _
    go_wp2_with fail
    go_ret
    exact ⟨rfl, Y.out.1, (K1.out.mono (M := [g, b.v, b.c, b.p]) (by simp)).drew.trans (Y.out.2.mono (M := [g, b.v, b.c, b.p]) (by simp)) (fun y hy => .inl hy)⟩
set_option maxHeartbeats 4000000 in
theorem hread7 (h : HP w g d b x) (hl : x.lim 1000000) (off : Int) (o0 : 0 ≤ off) (o1 : off ≤ 65535) (hk : whereI (plA off) = 7) :
    Calls Tryz.prog 112 #[.pointer (some ⟨g, 0, none⟩), .int .u16 off] w (HpR (.int .u8 (mixI x.buf 255 (x.pt.val (peekI (d.np - x.tp) (fun i => d.zp (x.tp + i)) 0)))) g d b { x with buf := mixI x.buf 255 (x.pt.val (peekI (d.np - x.tp) (fun i => d.zp (x.tp + i)) 0)), tp := if x.pt.takes then x.tp + 1 else x.tp } [g, b.v, b.c, b.p] w) := by
    obtain ⟨a0, a1⟩ := plA_bd off o0
    have bu0 := h.ok.2.2.1.1
    have bu1 := h.ok.2.2.1.2
    have tc0 := h.ok.1.2.1
    have H := Lib.hid h
    have HK := Lib.hid hk
    have HL := Lib.hid hl
    clear h hk hl
    have pb := H.out.pbyte
    obtain ⟨v, hv⟩ : ∃ v, x.pt.val (peekI (d.np - x.tp) (fun i => d.zp (x.tp + i)) 0) = v := ⟨_, rfl⟩
    obtain ⟨tq, htq⟩ : ∃ tq, (if x.pt.takes then x.tp + 1 else x.tp) = tq := ⟨_, rfl⟩
    rw [hv, htq]
    have vb := Pt.val_byte x.pt _ pb.1 pb.2
    rw [hv] at vb
    have mb := mix_byte x.buf 255 v bu0 bu1 (by decide) (by decide) vb.1 vb.2
    have MB := Lib.hid mb
    have HV := Lib.hid hv
    have HT := Lib.hid htq
    clear mb vb pb hv htq
    go_enter Tryz.func112, Tryz.ntmps112
    go_wp2_with fail
    refine (addr_v (a := plA off) (by decide) (by decide) o0 o1 rfl).mono ?_
    rintro e w' ⟨rfl, rfl⟩
    go_wp2_with fail
    refine (where_v a0 a1 HK.out).mono ?_
    rintro e w1 ⟨rfl, b1⟩
    have H1 := Lib.hid (H.out.keep b1)
    have K1 : Hid (Kp [] w w1) := Lib.hid (Kp.of_below b1)
    clear b1 H
    go_wp2_with fail
    refine rg_begin (S := fun w' => True) 9 #[false, false, false, false, false, false, false, false, false] (by kernel_rfl) (by kernel_rfl) (by kernel_rfl) ?_ (fun hHeld => ?_)
    · exact trivial
    refine rgt 0 (some 42) (v := ?_) rfl ?_ ?_
    rotate_left 1
    · (intro wS hSw; (try dsimp only at hSw); go_simp; try with_reducible rfl)
    refine rgt 1 (some 43) (v := ?_) rfl ?_ ?_
    rotate_left 1
    · (intro wS hSw; (try dsimp only at hSw); go_simp; try with_reducible rfl)
    refine rgt 2 (some 44) (v := ?_) rfl ?_ ?_
    rotate_left 1
    · (intro wS hSw; (try dsimp only at hSw); go_simp; try with_reducible rfl)
    refine rgt 3 (some 45) (v := ?_) rfl ?_ ?_
    rotate_left 1
    · (intro wS hSw; (try dsimp only at hSw); go_simp; try with_reducible rfl)
    refine rgt 4 (some 46) (v := ?_) rfl ?_ ?_
    rotate_left 1
    · (intro wS hSw; (try dsimp only at hSw); go_simp; try with_reducible rfl)
    refine rgt 5 (some 47) (v := ?_) rfl ?_ ?_
    rotate_left 1
    · (intro wS hSw; (try dsimp only at hSw); go_simp; try with_reducible rfl)
    try simp only [Act.put, List.setIfInBounds_toArray, List.set_cons_zero, List.set_cons_succ]
    refine rg_next (i := 6) (l := #[true, true, true, true, true, true, true, false, false]) (fuel := 2) (by kernel_rfl) rfl (by kernel_rfl) (by kernel_rfl) (fun K hK => ?_)
    go_simp
    (go_at_call 158)
    obtain ⟨cs, q1, q2⟩ := (H1.out.kp0 (Kp.refl _ _).drew).prt
    refine (pread_any q1 (by have := HL.out.2.2; omega)).mono ?_
    rw [HV.out, HT.out]
    rintro e w2 ⟨rfl, y1, y2⟩
    have H2 := Lib.hid (q2 _ _ _ _ y1 y2 (by simp))
    have K2 : Hid (Kp [g, b.v, b.c, b.p] w w2) := Lib.hid ((K1.out.drew.mono (by simp)).trans (y2.mono (M := [g, b.v, b.c, b.p]) (by simp)) (fun y hy => .inl hy))
    clear q1 q2 y1 y2 cs H1 K1
    first | (refine hK.out _ _ ?_ (fun hHeld => ?_)) | (go_wp2_with fail; refine hK.out _ _ ?_ (fun hHeld => ?_))
    · (try dsimp only); try exact trivial
    clear hK K
    try simp only [Act.put, List.setIfInBounds_toArray, List.set_cons_zero, List.set_cons_succ]
    refine rg_next (i := 7) (l := #[true, true, true, true, true, true, true, true, false]) (fuel := 1) (by kernel_rfl) rfl (by kernel_rfl) (by kernel_rfl) (fun K hK => ?_)
    go_simp
    (go_at_call 157)
    obtain ⟨l1, l2, l3⟩ := H2.out.lat
    refine (plread_any l1 l2 255 v).mono ?_
    rintro e w3 ⟨rfl, rfl⟩
    have Y := Lib.hid (l3 _ MB.out.1 MB.out.2)
    clear l1 l2 l3
    first | (refine hK.out _ _ ?_ (fun hHeld => ?_)) | (go_wp2_with fail; refine hK.out _ _ ?_ (fun hHeld => ?_))
    · (try dsimp only); try exact trivial
    clear hK K
    refine rgt 8 (some 4) (v := ?_) rfl ?_ ?_
    rotate_left 1
    · (intro wS hSw; (try dsimp only at hSw); go_simp; try with_reducible rfl)
    try simp only [Act.put, List.setIfInBounds_toArray, List.set_cons_zero, List.set_cons_succ]
    refine wpAnyH_done (by kernel_rfl) ?_ _
    go_wp2_with fail
    go_ret
    refine ⟨rfl, ?_, K2.out.trans (Y.out.2.mono (M := [g, b.v, b.c, b.p]) (by simp)) (fun y hy => .inl hy)⟩
    exact Y.out.1
set_option maxHeartbeats 4000000 in
theorem hread8 (h : HP w g d b x) (hl : x.lim 1000000) (off : Int) (o0 : 0 ≤ off) (o1 : off ≤ 65535) (hk : whereI (plA off) = 8) :
    Calls Tryz.prog 112 #[.pointer (some ⟨g, 0, none⟩), .int .u16 off] w (HpR (.int .u8 (x.ri d (regI (plA off)))) g d b { x with buf := x.ri d (regI (plA off)) } [g, b.v, b.c, b.p] w) := by
    obtain ⟨a0, a1⟩ := plA_bd off o0
    have bu0 := h.ok.2.2.1.1
    have bu1 := h.ok.2.2.1.2
    have tc0 := h.ok.1.2.1
    have H := Lib.hid h
    have HK := Lib.hid hk
    have HL := Lib.hid hl
    clear h hk hl
    go_enter Tryz.func112, Tryz.ntmps112
    go_wp2_with fail
    refine (addr_v (a := plA off) (by decide) (by decide) o0 o1 rfl).mono ?_
    rintro e w' ⟨rfl, rfl⟩
    go_wp2_with fail
    refine (where_v a0 a1 HK.out).mono ?_
    rintro e w1 ⟨rfl, b1⟩
    have H1 := Lib.hid (H.out.keep b1)
    have K1 : Hid (Kp [] w w1) := Lib.hid (Kp.of_below b1)
    clear b1 H
    go_wp2_with fail
    refine (reg_v a0 a1 rfl).mono ?_
    rintro e w2 ⟨rfl, b2⟩
    have H2 := Lib.hid (H1.out.keep b2)
    have K2 : Hid (Kp [g] w w2) := Lib.hid ((K1.out.mono (by simp)).trans (Kp.of_below (L := [g]) b2) (by simp))
    clear b2 H1 K1
    go_wp2_with fail
    refine (hreadirq_any H2.out (regI (plA off))).mono ?_
    rintro e w3 ⟨rfl, y1, y2⟩
    have Y := Lib.hid y1
    have K3 := Lib.hid (K2.out.trans y2 (by simp))
    clear y1 y2
    go_wp2_with fail
    go_ret
    exact ⟨rfl, Y.out, K3.out.mono (by simp)⟩
set_option maxHeartbeats 4000000 in
theorem hread0 (h : HP w g d b x) (off k : Int) (o0 : 0 ≤ off) (o1 : off ≤ 65535) (hk : whereI (plA off) = k) (hn : k < 3 ∨ 8 < k) :
    Calls Tryz.prog 112 #[.pointer (some ⟨g, 0, none⟩), .int .u16 off] w (HpR (.int .u8 255) g d b x [g, b.v, b.c, b.p] w) := by
    obtain ⟨a0, a1⟩ := plA_bd off o0
    have n3 : (k == 3) = false := by simp; omega
    have n4 : (k == 4) = false := by simp; omega
    have n5 : (k == 5) = false := by simp; omega
    have n6 : (k == 6) = false := by simp; omega
    have n7 : (k == 7) = false := by simp; omega
    have n8 : (k == 8) = false := by simp; omega
    have H := Lib.hid h
    have HK := Lib.hid hk
    clear h hk hn
    go_enter Tryz.func112, Tryz.ntmps112
    go_wp2_with fail
    refine (addr_v (a := plA off) (by decide) (by decide) o0 o1 rfl).mono ?_
    rintro e w' ⟨rfl, rfl⟩
    go_wp2_with fail
    refine (where_v a0 a1 HK.out).mono ?_
    rintro e w1 ⟨rfl, b1⟩
    have H1 := Lib.hid (H.out.keep b1)
    have K1 : Hid (Kp [] w w1) := Lib.hid (Kp.of_below b1)
    clear b1 H
    go_wp2_with fail
    go_ret
    exact ⟨rfl, H1.out, K1.out.mono (by simp)⟩
theorem hread_any (h : HP w g d b x) (hl : x.lim 1000000) (off : Int) (o0 : 0 ≤ off) (o1 : off ≤ 65535) :
    Calls Tryz.prog 112 #[.pointer (some ⟨g, 0, none⟩), .int .u16 off] w (HpR (.int .u8 (x.rv d (whereI (plA off)) (regI (plA off)))) g d b (x.rd d (whereI (plA off)) (regI (plA off))) [g, b.v, b.c, b.p] w) := by
  obtain ⟨k, hk⟩ : ∃ k, whereI (plA off) = k := ⟨_, rfl⟩
  by_cases h3 : k = 3
  · subst h3; rw [hk]; exact hread3 h hl off o0 o1 hk
  by_cases h4 : k = 4
  · subst h4; rw [hk]; exact hread4 h hl off o0 o1 hk
  by_cases h5 : k = 5
  · subst h5; rw [hk]; exact hread5 h hl off o0 o1 hk
  by_cases h6 : k = 6
  · subst h6; rw [hk]; exact hread6 h hl off o0 o1 hk
  by_cases h7 : k = 7
  · subst h7; rw [hk]; exact hread7 h hl off o0 o1 hk
  by_cases h8 : k = 8
  · subst h8; rw [hk]; exact hread8 h hl off o0 o1 hk
  have e1 : x.rv d k (regI (plA off)) = 255 := by unfold Hp.rv; rw [if_neg h3, if_neg h4, if_neg h5, if_neg h6, if_neg h7, if_neg h8]
  have e2 : x.rd d k (regI (plA off)) = x := by unfold Hp.rd; rw [if_neg h3, if_neg h4, if_neg (by omega), if_neg h7]
  rw [hk, e1, e2]
  exact hread0 h off k o0 o1 hk (by omega)
set_option maxHeartbeats 4000000 in
theorem hwrite5 (h : HP w g d b x) (hl : x.lim 1000000) (off : Int) (o0 : 0 ≤ off) (o1 : off ≤ 65535) (u : Int) (u0 : 0 ≤ u) (u1 : u ≤ 255) (hk : whereI (plA off) = 5) :
    Calls Tryz.prog 114 #[.pointer (some ⟨g, 0, none⟩), .int .u16 off, .int .u8 u] w (HpR (.tuple #[]) g d b { x with buf := u } [g, b.v, b.c, b.p] w) := by
    obtain ⟨a0, a1⟩ := plA_bd off o0
    have bu0 := h.ok.2.2.1.1
    have bu1 := h.ok.2.2.1.2
    have tc0 := h.ok.1.2.1
    have H := Lib.hid h
    have HK := Lib.hid hk
    have HL := Lib.hid hl
    clear h hk hl
    go_enter Tryz.func114, Tryz.ntmps114
    go_wp2_with fail
    refine (addr_v (a := plA off) (by decide) (by decide) o0 o1 rfl).mono ?_
    rintro e w' ⟨rfl, rfl⟩
    go_wp2_with fail
    refine (where_v a0 a1 HK.out).mono ?_
    rintro e w1 ⟨rfl, b1⟩
    have H1 := Lib.hid (H.out.keep b1)
    have K1 : Hid (Kp [] w w1) := Lib.hid (Kp.of_below b1)
    clear b1 H
    go_wp2_with fail
    obtain ⟨l1, l2, l3⟩ := H1.out.lat
    refine (plwrite_any l1 l2 u).mono ?_
    rintro e w3 ⟨rfl, rfl⟩
    have L3 := Lib.hid (l3 u u0 u1)
    clear l1 l2 l3
    go_wp2_with fail
    first | go_end0 | refine bodyPost_ret (results_none rfl _ _ _) rfl ?_
    exact ⟨rfl, L3.out.1, (K1.out.mono (M := [g, b.v, b.c, b.p]) (by simp)).trans (L3.out.2.mono (M := [g, b.v, b.c, b.p]) (by simp)) (fun y hy => .inl hy)⟩
set_option maxHeartbeats 4000000 in
theorem hwrite6 (h : HP w g d b x) (hl : x.lim 1000000) (off : Int) (o0 : 0 ≤ off) (o1 : off ≤ 65535) (u : Int) (u0 : 0 ≤ u) (u1 : u ≤ 255) (hk : whereI (plA off) = 6) :
    Calls Tryz.prog 114 #[.pointer (some ⟨g, 0, none⟩), .int .u16 off, .int .u8 u] w (HpR (.tuple #[]) g d b { x with tm := x.tm.wr (regI (plA off)) u, buf := u } [g, b.v, b.c, b.p] w) := by
    obtain ⟨a0, a1⟩ := plA_bd off o0
    have bu0 := h.ok.2.2.1.1
    have bu1 := h.ok.2.2.1.2
    have tc0 := h.ok.1.2.1
    have H := Lib.hid h
    have HK := Lib.hid hk
    have HL := Lib.hid hl
    clear h hk hl
    go_enter Tryz.func114, Tryz.ntmps114
    go_wp2_with fail
    refine (addr_v (a := plA off) (by decide) (by decide) o0 o1 rfl).mono ?_
    rintro e w' ⟨rfl, rfl⟩
    go_wp2_with fail
    refine (where_v a0 a1 HK.out).mono ?_
    rintro e w1 ⟨rfl, b1⟩
    have H1 := Lib.hid (H.out.keep b1)
    have K1 : Hid (Kp [] w w1) := Lib.hid (Kp.of_below b1)
    clear b1 H
    go_wp2_with fail
    refine rg_begin (S := fun w' => True) 7 #[false, false, false, false, false, false, false] (by kernel_rfl) (by kernel_rfl) (by kernel_rfl) ?_ (fun hHeld => ?_)
    · exact trivial
    refine rgt 0 (some 17) (v := ?_) rfl ?_ ?_
    rotate_left 1
    · (intro wS hSw; (try dsimp only at hSw); go_simp; try with_reducible rfl)
    refine rgt 1 (some 18) (v := ?_) rfl ?_ ?_
    rotate_left 1
    · (intro wS hSw; (try dsimp only at hSw); go_simp; try with_reducible rfl)
    refine rgt 2 (some 19) (v := ?_) rfl ?_ ?_
    rotate_left 1
    · (intro wS hSw; (try dsimp only at hSw); go_simp; try with_reducible rfl)
    refine rgt 3 (some 20) (v := ?_) rfl ?_ ?_
    rotate_left 1
    · (intro wS hSw; (try dsimp only at hSw); go_simp; try with_reducible rfl)
    refine rgt 5 (some 22) (v := ?_) rfl ?_ ?_
    rotate_left 1
    · (intro wS hSw; (try dsimp only at hSw); go_simp; try with_reducible rfl)
    try simp only [Act.put, List.setIfInBounds_toArray, List.set_cons_zero, List.set_cons_succ]
    refine rg_next (i := 4) (l := #[true, true, true, true, true, true, false]) (fuel := 1) (by kernel_rfl) rfl (by kernel_rfl) (by kernel_rfl) (fun K hK => ?_)
    go_simp
    (go_at_call 160)
    refine (reg_v a0 a1 rfl).mono ?_
    rintro e w2 ⟨rfl, b2⟩
    have HH := Lib.hid ((H1.out.kp0 (Kp.refl _ _).drew).keep b2)
    have KK : Hid (Kp [] w w2) := Lib.hid (K1.out.drew.trans (Kp.of_below (L := []) b2) (by simp))
    clear b2 H1 K1
    first | (refine hK.out _ _ ?_ (fun hHeld => ?_)) | (go_wp2_with fail; refine hK.out _ _ ?_ (fun hHeld => ?_))
    · (try dsimp only); try exact trivial
    clear hK K
    try simp only [Act.put, List.setIfInBounds_toArray, List.set_cons_zero, List.set_cons_succ]
    refine rg_next (i := 6) (l := #[true, true, true, true, true, true, true]) (fuel := 0) (by kernel_rfl) rfl (by kernel_rfl) (by kernel_rfl) (fun K hK => ?_)
    go_simp
    (go_at_call 116)
    obtain ⟨cs, q1, q2⟩ := HH.out.tmr
    refine (twrite_any q1 (regI (plA off)) u u0 u1).mono ?_
    rintro e w3 ⟨rfl, y1, y2⟩
    have H2 := Lib.hid (q2 _ _ y1 y2)
    have K2 : Hid (Kp [g, b.v, b.c, b.p] w w3) := Lib.hid ((KK.out.mono (by simp)).trans (y2.mono (M := [g, b.v, b.c, b.p]) (by simp)) (fun y hy => .inl hy))
    clear q1 q2 y1 y2 cs HH KK
    first | (refine hK.out _ _ ?_ (fun hHeld => ?_)) | (go_wp2_with fail; refine hK.out _ _ ?_ (fun hHeld => ?_))
    · (try dsimp only); try exact trivial
    clear hK K
    try simp only [Act.put, List.setIfInBounds_toArray, List.set_cons_zero, List.set_cons_succ]
    refine wpAnyH_done (by kernel_rfl) ?_ _
    obtain ⟨l1, l2, l3⟩ := H2.out.lat
    have L1 := Lib.hid l1
    have L2 := Lib.hid l2
    have L3 := Lib.hid (l3 u u0 u1)
    clear l1 l2 l3
    go_wp2_with fail
    refine (plwrite_any L1.out L2.out u).mono ?_
    rintro e w3 ⟨rfl, rfl⟩
    go_wp2_with fail
    first | go_end0 | refine bodyPost_ret (results_none rfl _ _ _) rfl ?_
    exact ⟨rfl, L3.out.1, K2.out.trans (L3.out.2.mono (M := [g, b.v, b.c, b.p]) (by simp)) (fun y hy => .inl hy)⟩
set_option maxHeartbeats 4000000 in
theorem hwrite7 (h : HP w g d b x) (hl : x.lim 1000000) (off : Int) (o0 : 0 ≤ off) (o1 : off ≤ 65535) (u : Int) (u0 : 0 ≤ u) (u1 : u ≤ 255) (hk : whereI (plA off) = 7) :
    Calls Tryz.prog 114 #[.pointer (some ⟨g, 0, none⟩), .int .u16 off, .int .u8 u] w (HpR (.tuple #[]) g d b { x with pt := x.pt.wr u, buf := u } [g, b.v, b.c, b.p] w) := by
    obtain ⟨a0, a1⟩ := plA_bd off o0
    have bu0 := h.ok.2.2.1.1
    have bu1 := h.ok.2.2.1.2
    have tc0 := h.ok.1.2.1
    have H := Lib.hid h
    have HK := Lib.hid hk
    have HL := Lib.hid hl
    clear h hk hl
    go_enter Tryz.func114, Tryz.ntmps114
    go_wp2_with fail
    refine (addr_v (a := plA off) (by decide) (by decide) o0 o1 rfl).mono ?_
    rintro e w' ⟨rfl, rfl⟩
    go_wp2_with fail
    refine (where_v a0 a1 HK.out).mono ?_
    rintro e w1 ⟨rfl, b1⟩
    have H1 := Lib.hid (H.out.keep b1)
    have K1 : Hid (Kp [] w w1) := Lib.hid (Kp.of_below b1)
    clear b1 H
    go_wp2_with fail
    obtain ⟨cs, q1, q2⟩ := H1.out.prt
    refine (pwrite_any q1 u u0 u1).mono ?_
    rintro e w2 ⟨rfl, y1, y2⟩
    have H2 := Lib.hid (q2 _ _ _ _ y1 y2 (by simp))
    have K2 : Hid (Kp [g, b.v, b.c, b.p] w w2) := Lib.hid ((K1.out.mono (by simp)).trans (y2.mono (M := [g, b.v, b.c, b.p]) (by simp)) (fun y hy => .inl hy))
    clear q1 q2 y1 y2 cs H1 K1
    obtain ⟨l1, l2, l3⟩ := H2.out.lat
    have L1 := Lib.hid l1
    have L2 := Lib.hid l2
    have L3 := Lib.hid (l3 u u0 u1)
    clear l1 l2 l3
    go_wp2_with fail
    refine (plwrite_any L1.out L2.out u).mono ?_
    rintro e w3 ⟨rfl, rfl⟩
    go_wp2_with fail
    first | go_end0 | refine bodyPost_ret (results_none rfl _ _ _) rfl ?_
    exact ⟨rfl, L3.out.1, K2.out.trans (L3.out.2.mono (M := [g, b.v, b.c, b.p]) (by simp)) (fun y hy => .inl hy)⟩
set_option maxHeartbeats 4000000 in
theorem hwrite8 (h : HP w g d b x) (hl : x.lim 1000000) (off : Int) (o0 : 0 ≤ off) (o1 : off ≤ 65535) (u : Int) (u0 : 0 ≤ u) (u1 : u ≤ 255) (hk : whereI (plA off) = 8) :
    Calls Tryz.prog 114 #[.pointer (some ⟨g, 0, none⟩), .int .u16 off, .int .u8 u] w (HpR (.tuple #[]) g d b { x with q := x.q.wr (regI (plA off)) u, buf := u } [g, b.v, b.c, b.p] w) := by
    obtain ⟨a0, a1⟩ := plA_bd off o0
    have bu0 := h.ok.2.2.1.1
    have bu1 := h.ok.2.2.1.2
    have tc0 := h.ok.1.2.1
    have H := Lib.hid h
    have HK := Lib.hid hk
    have HL := Lib.hid hl
    clear h hk hl
    go_enter Tryz.func114, Tryz.ntmps114
    go_wp2_with fail
    refine (addr_v (a := plA off) (by decide) (by decide) o0 o1 rfl).mono ?_
    rintro e w' ⟨rfl, rfl⟩
    go_wp2_with fail
    refine (where_v a0 a1 HK.out).mono ?_
    rintro e w1 ⟨rfl, b1⟩
    have H1 := Lib.hid (H.out.keep b1)
    have K1 : Hid (Kp [] w w1) := Lib.hid (Kp.of_below b1)
    clear b1 H
    go_wp2_with fail
    refine rg_begin (S := fun w' => True) 7 #[false, false, false, false, false, false, false] (by kernel_rfl) (by kernel_rfl) (by kernel_rfl) ?_ (fun hHeld => ?_)
    · exact trivial
    refine rgt 0 (some 33) (v := ?_) rfl ?_ ?_
    rotate_left 1
    · (intro wS hSw; (try dsimp only at hSw); go_simp; try with_reducible rfl)
    refine rgt 1 (some 34) (v := ?_) rfl ?_ ?_
    rotate_left 1
    · (intro wS hSw; (try dsimp only at hSw); go_simp; try with_reducible rfl)
    refine rgt 2 (some 35) (v := ?_) rfl ?_ ?_
    rotate_left 1
    · (intro wS hSw; (try dsimp only at hSw); go_simp; try with_reducible rfl)
    refine rgt 3 (some 36) (v := ?_) rfl ?_ ?_
    rotate_left 1
    · (intro wS hSw; (try dsimp only at hSw); go_simp; try with_reducible rfl)
    refine rgt 5 (some 38) (v := ?_) rfl ?_ ?_
    rotate_left 1
    · (intro wS hSw; (try dsimp only at hSw); go_simp; try with_reducible rfl)
    try simp only [Act.put, List.setIfInBounds_toArray, List.set_cons_zero, List.set_cons_succ]
    refine rg_next (i := 4) (l := #[true, true, true, true, true, true, false]) (fuel := 1) (by kernel_rfl) rfl (by kernel_rfl) (by kernel_rfl) (fun K hK => ?_)
    go_simp
    (go_at_call 160)
    refine (reg_v a0 a1 rfl).mono ?_
    rintro e w2 ⟨rfl, b2⟩
    have HH := Lib.hid ((H1.out.kp0 (Kp.refl _ _).drew).keep b2)
    have KK : Hid (Kp [] w w2) := Lib.hid (K1.out.drew.trans (Kp.of_below (L := []) b2) (by simp))
    clear b2 H1 K1
    first | (refine hK.out _ _ ?_ (fun hHeld => ?_)) | (go_wp2_with fail; refine hK.out _ _ ?_ (fun hHeld => ?_))
    · (try dsimp only); try exact trivial
    clear hK K
    try simp only [Act.put, List.setIfInBounds_toArray, List.set_cons_zero, List.set_cons_succ]
    refine rg_next (i := 6) (l := #[true, true, true, true, true, true, true]) (fuel := 0) (by kernel_rfl) rfl (by kernel_rfl) (by kernel_rfl) (fun K hK => ?_)
    go_simp
    (go_at_call 117)
    obtain ⟨cs, q1, q2⟩ := HH.out.irq
    refine (qwrite_any q1 (regI (plA off)) u u0 u1).mono ?_
    rintro e w3 ⟨rfl, y1, y2⟩
    have H2 := Lib.hid (q2 _ _ y1 y2)
    have K2 : Hid (Kp [g, b.v, b.c, b.p] w w3) := Lib.hid ((KK.out.mono (by simp)).trans (y2.mono (M := [g, b.v, b.c, b.p]) (by simp)) (fun y hy => .inl hy))
    clear q1 q2 y1 y2 cs HH KK
    first | (refine hK.out _ _ ?_ (fun hHeld => ?_)) | (go_wp2_with fail; refine hK.out _ _ ?_ (fun hHeld => ?_))
    · (try dsimp only); try exact trivial
    clear hK K
    try simp only [Act.put, List.setIfInBounds_toArray, List.set_cons_zero, List.set_cons_succ]
    refine wpAnyH_done (by kernel_rfl) ?_ _
    obtain ⟨l1, l2, l3⟩ := H2.out.lat
    have L1 := Lib.hid l1
    have L2 := Lib.hid l2
    have L3 := Lib.hid (l3 u u0 u1)
    clear l1 l2 l3
    go_wp2_with fail
    refine (plwrite_any L1.out L2.out u).mono ?_
    rintro e w3 ⟨rfl, rfl⟩
    go_wp2_with fail
    first | go_end0 | refine bodyPost_ret (results_none rfl _ _ _) rfl ?_
    exact ⟨rfl, L3.out.1, K2.out.trans (L3.out.2.mono (M := [g, b.v, b.c, b.p]) (by simp)) (fun y hy => .inl hy)⟩
set_option maxHeartbeats 4000000 in
theorem hwrite0 (h : HP w g d b x) (off k : Int) (o0 : 0 ≤ off) (o1 : off ≤ 65535) (u : Int) (hk : whereI (plA off) = k) (hn : k < 5 ∨ 8 < k) :
    Calls Tryz.prog 114 #[.pointer (some ⟨g, 0, none⟩), .int .u16 off, .int .u8 u] w (HpR (.tuple #[]) g d b x [g, b.v, b.c, b.p] w) := by
    obtain ⟨a0, a1⟩ := plA_bd off o0
    have n5 : (k == 5) = false := by simp; omega
    have n6 : (k == 6) = false := by simp; omega
    have n7 : (k == 7) = false := by simp; omega
    have n8 : (k == 8) = false := by simp; omega
    have H := Lib.hid h
    have HK := Lib.hid hk
    clear h hk hn
    go_enter Tryz.func114, Tryz.ntmps114
    go_wp2_with fail
    refine (addr_v (a := plA off) (by decide) (by decide) o0 o1 rfl).mono ?_
    rintro e w' ⟨rfl, rfl⟩
    go_wp2_with fail
    refine (where_v a0 a1 HK.out).mono ?_
    rintro e w1 ⟨rfl, b1⟩
    have H1 := Lib.hid (H.out.keep b1)
    have K1 : Hid (Kp [] w w1) := Lib.hid (Kp.of_below b1)
    clear b1 H
    go_wp2_with fail
    first | go_end0 | refine bodyPost_ret (results_none rfl _ _ _) rfl ?_
    exact ⟨rfl, H1.out, K1.out.mono (by simp)⟩
theorem hwrite_any (h : HP w g d b x) (hl : x.lim 1000000) (off u : Int) (o0 : 0 ≤ off) (o1 : off ≤ 65535) (u0 : 0 ≤ u) (u1 : u ≤ 255) :
    Calls Tryz.prog 114 #[.pointer (some ⟨g, 0, none⟩), .int .u16 off, .int .u8 u] w (HpR (.tuple #[]) g d b (x.wr (whereI (plA off)) (regI (plA off)) u) [g, b.v, b.c, b.p] w) := by
  obtain ⟨k, hk⟩ : ∃ k, whereI (plA off) = k := ⟨_, rfl⟩
  by_cases h5 : k = 5
  · subst h5; rw [hk]; exact hwrite5 h hl off o0 o1 u u0 u1 hk
  by_cases h6 : k = 6
  · subst h6; rw [hk]; exact hwrite6 h hl off o0 o1 u u0 u1 hk
  by_cases h7 : k = 7
  · subst h7; rw [hk]; exact hwrite7 h hl off o0 o1 u u0 u1 hk
  by_cases h8 : k = 8
  · subst h8; rw [hk]; exact hwrite8 h hl off o0 o1 u u0 u1 hk
  have e2 : x.wr k (regI (plA off)) u = x := by unfold Hp.wr; rw [if_neg h5, if_neg h6, if_neg h7, if_neg h8]
  rw [hk, e2]
  exact hwrite0 h off k o0 o1 u hk (by omega)
end
end Go.Proofs.YtleofglnlfpoeaaGreat
namespace Go.Proofs.YtleofglnlfpoeaaGreat
open Go.RowKit
set_option linter.unusedVariables false
set_option linter.unusedSimpArgs false
set_option maxRecDepth 100000
section
variable {w : World} {A1 A2 A3 A : Option Addr} {n1 c1 n2 c2 n3 c3 n c : Nat} {z1 z2 z3 : Nat → Int} {es : Nat → Iib}
set_option maxHeartbeats 4000000 in
theorem hnew_long (h1 : n1 ≤ 9223372036854775807) (h2 : n2 ≤ 9223372036854775807) (h3 : n3 ≤ 9223372036854775807) (hl : 10000 < n1 ∨ 10000 < n2 ∨ 10000 < n3) :
    Calls Tryz.prog 5 #[.agg #[.slice A1 n1 c1, .slice A2 n2 c2, .slice A3 n3 c3], .slice A n c] w (NewHN (2, 0) w) := by
  have hlb : longB n1 n2 n3 = true := decide_eq_true hl
  have hchk := fcheck_any (w := (w.alloc (.cells #[.slice A1 n1 c1, .slice A2 n2 c2, .slice A3 n3 c3] 25)).alloc (.cells #[.int .i64 0, .int .i64 0] 34)) A1 A2 A3 n1 n2 n3 c1 c2 c3 h1 h2 h3
  rw [hlb] at hchk
  have HCHK := Lib.hid hchk
  have hb1 : Below w.heap.size w ((w.alloc (.cells #[.slice A1 n1 c1, .slice A2 n2 c2, .slice A3 n3 c3] 25)).alloc (.cells #[.int .i64 0, .int .i64 0] 34)) := ((Below.refl _ _).alloc (Nat.le_refl _) _).alloc (by simp) _
  have G0 := Lib.hid (Blk.new (w.alloc (.cells #[.slice A1 n1 c1, .slice A2 n2 c2, .slice A3 n3 c3] 25)) 34 #[.int .i64 0, .int .i64 0])
  rw [World.size_alloc] at G0
  have HB := Lib.hid hb1
  clear hlb hchk hb1 hl h1 h2 h3
  go_enter Tryz.func5, Tryz.ntmps5
  go_wp2_with fail
  generalize World.alloc _ _ = w1 at *
  refine HCHK.out.mono ?_
  rintro e w2 ⟨rfl, b2⟩
  have s1 : w.heap.size + 1 < w1.heap.size := G0.out.lt
  have HB2 := Lib.hid (HB.out.trans (b2.mono (by omega)))
  have G2 := Lib.hid (G0.out.below b2 G0.out.lt)
  have e0 : w2.cell? ⟨w.heap.size + 1, 0, none⟩ = some (.int .i64 0) := G2.out.cell 0
  have e1 : w2.cell? ⟨w.heap.size + 1, 1, none⟩ = some (.int .i64 0) := G2.out.cell 1
  have f0 := G2.out.frozen 0
  have f1 := G2.out.frozen 1
  clear b2 HB G0 HCHK s1
  go_wp2_with fail
  have NB := (G2.out.set_ 0 (.int .i64 2)).set_ 1 (.int .i64 0)
  have B9 := Lib.hid ((HB2.out.setCell (p := ⟨w.heap.size + 1, 0, none⟩) (by simp) (.int .i64 2)).setCell (p := ⟨w.heap.size + 1, 1, none⟩) (by simp) (.int .i64 0))
  simp only [List.setIfInBounds_toArray, List.set_cons_zero, List.set_cons_succ] at NB
  clear e0 e1 f0 f1
  generalize World.setCell (World.setCell _ _ _) _ _ = wz at *
  have y0 : wz.cell? ⟨w.heap.size + 1, 0, none⟩ = some (.int .i64 2) := NB.cell 0
  have y1 : wz.cell? ⟨w.heap.size + 1, 1, none⟩ = some (.int .i64 0) := NB.cell 1
  clear NB
  refine bodyPost_ret (v := .tuple #[.pointer none, .agg #[.int .i64 2, .int .i64 0]]) (by simp [results, Tryz.results5, go_sem, y0, y1]) rfl ?_
  exact ⟨rfl, B9.out⟩
set_option maxHeartbeats 4000000 in
theorem hnew_bad (R : ERow w A n es) (hl : ¬ (10000 < n1 ∨ 10000 < n2 ∨ 10000 < n3)) (hc : n ≤ 9223372036854775807) (hk : (chk es n).1 ≠ 0) :
    Calls Tryz.prog 5 #[.agg #[.slice A1 n1 c1, .slice A2 n2 c2, .slice A3 n3 c3], .slice A n c] w (NewHN (chk es n) w) := by
  have hlb : longB n1 n2 n3 = false := decide_eq_false hl
  have hchk := fcheck_any (w := (w.alloc (.cells #[.slice A1 n1 c1, .slice A2 n2 c2, .slice A3 n3 c3] 25)).alloc (.cells #[.int .i64 0, .int .i64 0] 34)) A1 A2 A3 n1 n2 n3 c1 c2 c3 (by omega) (by omega) (by omega)
  rw [hlb] at hchk
  have HCHK := Lib.hid hchk
  have hb1 : Below w.heap.size w ((w.alloc (.cells #[.slice A1 n1 c1, .slice A2 n2 c2, .slice A3 n3 c3] 25)).alloc (.cells #[.int .i64 0, .int .i64 0] 34)) := ((Below.refl _ _).alloc (Nat.le_refl _) _).alloc (by simp) _
  have G0 := Lib.hid (Blk.new (w.alloc (.cells #[.slice A1 n1 c1, .slice A2 n2 c2, .slice A3 n3 c3] 25)) 34 #[.int .i64 0, .int .i64 0])
  rw [World.size_alloc] at G0
  have HB := Lib.hid hb1
  have HRE := Lib.hid R
  have hno := fun w (r : ERow w A n es) => lnew_no (c := c) r hc hk
  obtain ⟨⟨a, b⟩, hab⟩ : ∃ r, chk es n = r := ⟨_, rfl⟩
  rw [hab] at hk hno ⊢
  have hne : (a == 0) = false := by simpa using hk
  have HNO := Lib.hid hno
  clear hlb hchk hb1 hl R hno hk hab
  go_enter Tryz.func5, Tryz.ntmps5
  go_wp2_with fail
  generalize World.alloc _ _ = w1 at *
  refine HCHK.out.mono ?_
  rintro e w2 ⟨rfl, b2⟩
  have s1 : w.heap.size + 1 < w1.heap.size := G0.out.lt
  have HB2 := Lib.hid (HB.out.trans (b2.mono (by omega)))
  have G2 := Lib.hid (G0.out.below b2 G0.out.lt)
  clear b2 HB G0 HCHK s1
  go_wp2_with fail
  refine (HNO.out _ (FRow.keep HRE.out HB2.out)).mono ?_
  rintro e w3 ⟨rfl, b3⟩
  have s2 : w.heap.size + 1 < w2.heap.size := G2.out.lt
  have HB3 := Lib.hid (HB2.out.trans (b3.mono (by omega)))
  have G3 := Lib.hid (G2.out.below b3 G2.out.lt)
  clear b3 HB2 G2 s2
  go_wp2_with fail
  have s3 : w.heap.size + 1 < w3.heap.size := G3.out.lt
  have HB4 := Lib.hid (HB3.out.alloc (by omega) (.cells #[.int .i64 a, .int .i64 b] 34))
  have G4 := Lib.hid (G3.out.alloc (.cells #[.int .i64 a, .int .i64 b] 34))
  have n1 := Blk.new w3 34 #[.int .i64 a, .int .i64 b]
  have c30 : (w3.alloc (.cells #[.int .i64 a, .int .i64 b] 34)).cell? ⟨w3.heap.size, 0, none⟩ = some (.int .i64 a) := n1.cell 0
  have c31 : (w3.alloc (.cells #[.int .i64 a, .int .i64 b] 34)).cell? ⟨w3.heap.size, 1, none⟩ = some (.int .i64 b) := n1.cell 1
  have e0 : (w3.alloc (.cells #[.int .i64 a, .int .i64 b] 34)).cell? ⟨w.heap.size + 1, 0, none⟩ = some (.int .i64 0) := G4.out.cell 0
  have e1 : (w3.alloc (.cells #[.int .i64 a, .int .i64 b] 34)).cell? ⟨w.heap.size + 1, 1, none⟩ = some (.int .i64 0) := G4.out.cell 1
  have f0 := G4.out.frozen 0
  have f1 := G4.out.frozen 1
  clear n1 HB3 G3
  generalize World.alloc _ _ = w4 at *
  generalize w3.heap.size = g3 at *
  go_region
  all_goals
    go_wp2_with fail
    have NB := (G4.out.set_ 0 (.int .i64 a)).set_ 1 (.int .i64 b)
    have B9 := Lib.hid ((HB4.out.setCell (p := ⟨w.heap.size + 1, 0, none⟩) (by simp) (.int .i64 a)).setCell (p := ⟨w.heap.size + 1, 1, none⟩) (by simp) (.int .i64 b)).drew
    simp only [List.setIfInBounds_toArray, List.set_cons_zero, List.set_cons_succ] at NB
    have y0 : ((w4.setCell ⟨w.heap.size + 1, 0, none⟩ (.int .i64 a)).setCell ⟨w.heap.size + 1, 1, none⟩ (.int .i64 b)).drew.cell? ⟨w.heap.size + 1, 0, none⟩ = some (.int .i64 a) := NB.drew_.cell 0
    have y1 : ((w4.setCell ⟨w.heap.size + 1, 0, none⟩ (.int .i64 a)).setCell ⟨w.heap.size + 1, 1, none⟩ (.int .i64 b)).drew.cell? ⟨w.heap.size + 1, 1, none⟩ = some (.int .i64 b) := NB.drew_.cell 1
    show bodyPost Tryz.prog Tryz.f5 _ _ _ ((w4.setCell ⟨w.heap.size + 1, 0, none⟩ (.int .i64 a)).setCell ⟨w.heap.size + 1, 1, none⟩ (.int .i64 b)).drew
    clear e0 e1 f0 f1 NB
    generalize (World.setCell (World.setCell _ _ _) _ _).drew = wz at *
    refine bodyPost_ret (v := .tuple #[.pointer none, .agg #[.int .i64 a, .int .i64 b]]) (by simp [results, Tryz.results5, go_sem, y0, y1]) rfl ?_
    exact ⟨rfl, B9.out⟩
end
section
variable (w : World)
end
end Go.Proofs.YtleofglnlfpoeaaGreat
namespace Go.Proofs.YtleofglnlfpoeaaGreat
open Go.RowKit
set_option linter.unusedVariables false
set_option linter.unusedSimpArgs false
set_option maxRecDepth 100000
def es0 : Nat → Iib := fun _ => ⟨0, 0, false⟩
def d0 : Hd := ⟨0, es0, 0, fun _ => 0, 0, fun _ => 0, 0, fun _ => 0⟩
/-- A page that was made since. -/
def HT (B : Nat) (W : World) (g : Nat) (d : Hd) (b : Hb) (x : Hp) (w : World) : Prop := HP w g d b x ∧ Below B W w ∧ B ≤ w.heap.size ∧ (B ≤ g ∧ B ≤ b.v ∧ B ≤ b.c ∧ B ≤ b.p)
section
variable {B g : Nat} {W w w' : World} {d : Hd} {b : Hb} {x y : Hp}
theorem HT.on (h : HT B W g d b x w) (k : Below w.heap.size w w') : HT B W g d b x w' := ⟨h.1.keep k, h.2.1.trans (k.mono h.2.2.1), Nat.le_trans h.2.2.1 k.size, h.2.2.2⟩
theorem HT.go (h : HT B W g d b x w) {L : List Nat} (hL : ∀ z ∈ L, z ∈ [g, b.v, b.c, b.p]) (h1 : HP w' g d b y) (k : Kp L w w') : HT B W g d b y w' := by
  refine ⟨h1, k.onto h.2.1 h.2.2.1 (fun z hz => ?_), Nat.le_trans h.2.2.1 k.size, h.2.2.2⟩
  obtain ⟨a1, a2, a3, a4⟩ := h.2.2.2
  rcases (by simpa using hL z hz : z = g ∨ z = b.v ∨ z = b.c ∨ z = b.p) with rfl | rfl | rfl | rfl <;> assumption
end
section
variable {w : World} {g : Nat} {d : Hd} {b : Hb} {x y : Hp}
end
end Go.Proofs.YtleofglnlfpoeaaGreat
