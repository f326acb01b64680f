/-
  Texts of these proofs, one behind the other: Bus6, C3, Bus7.
-/
import Derived.Test.YtccimkmlbcgekaaGreatKA32
import Derived.Test.YtccimkmlbcgekaaGreatKA13
import Derived.BigRegion
import Derived.RegionTactic
import Derived.Test.YtccimkmlbcgekaaGreatKA22
namespace Go.Proofs.YtccimkmlbcgekaaGreat
open Go.RowKit
set_option linter.unusedVariables false
set_option linter.unusedSimpArgs false
set_option maxRecDepth 100000
section
variable {w w1 w' : World} {g : Nat} {d : Hd} {Q Q1 : Bp} {s s1 : Bs}
/-- Calls one behind the other. -/
theorem BuR.then_ {v : Value} {e : Ending} (k1 : Kp (bL g Q) w w1) (f1 : ∀ y ∈ bL g Q1, y ∈ bL g Q ∨ w.heap.size ≤ y) (q : Q1.p = Q.p ∧ Q1.b = Q.b ∧ Q1.m = Q.m) (h : BuR v g d Q1 s w1 e w') : BuR v g d Q s w e w' := by
  obtain ⟨Q', rfl, hb, k, fr, e1, e2, e3⟩ := h
  refine ⟨Q', rfl, hb, k1.trans k f1, fun y hy => ?_, e1.trans q.1, e2.trans q.2.1, e3.trans q.2.2⟩
  rcases fr y hy with h1 | h1
  · exact f1 y h1
  · exact .inr (Nat.le_trans k1.size h1)
theorem BuR.ret {v v' : Value} (h : BuR v g d Q s w (.returned v) w') : BuR v' g d Q s w (.returned v') w' := by
  obtain ⟨Q', _, hb, k, fr, e⟩ := h
  exact ⟨Q', rfl, hb, k, fr, e⟩
theorem Hp.lim_to {x : Hp} {t : Int} {n : Nat} (h : x.lim n) : (x.to d t).lim n := by
  unfold Hp.to
  split
  · exact h
  · exact h
theorem Hp.rv_byte {x : Hp} (h : HP w g d Q.b x) : True := trivial
/-- What an access that reads answers, and how a bus is behind it. -/
def Bs.rdV (s : Bs) (d : Hd) (a : Int) : Int := (s.beg d a).an d a
def Bs.rdS (s : Bs) (d : Hd) (a kd : Int) : Bs := { (s.beg d a).anS d a with tl := s.tl ++ [⟨s.now, a % 2097152, kd, false, s.rdV d a⟩] }
def Bs.wrS (s : Bs) (d : Hd) (a v kd : Int) : Bs := { (s.beg d a).chS a v with tl := s.tl ++ [⟨s.now, a % 2097152, kd, true, v⟩] }
theorem Bs.anS_tl (s : Bs) (d : Hd) (a : Int) : (s.anS d a).tl = s.tl := by unfold Bs.anS; split <;> rfl
theorem Bs.chS_tl (s : Bs) (a v : Int) : (s.chS a v).tl = s.tl := by unfold Bs.chS; (repeat' split) <;> rfl
theorem Bs.beg_tl (s : Bs) (d : Hd) (a : Int) : (s.beg d a).tl = s.tl := rfl
theorem bread_none (h : BU w g d Q s) (a kd : Int) (h0 : s.left = 0) : Calls Tryz.prog 20 #[.pointer (some ⟨g, 0, none⟩), .int .u32 a, .int .u8 kd] w (BuR (.int .u8 255) g d Q { s with over := true } w) := by
  have BG := Lib.hid (bbegin_none h a h0)
  clear h
  go_enter Tryz.func20, Tryz.ntmps20
  go_wp2_with fail
  refine BG.out.mono ?_
  rintro e w1 ⟨Q1, rfl, h1, k1, f1, q1⟩
  have R := Lib.hid (show BuR (.int .u8 255) g d Q { s with over := true } w (.returned (.int .u8 255)) w1 from ⟨Q1, rfl, h1, k1, f1, q1⟩)
  clear h1 k1 f1 q1
  go_wp2_with fail
  go_ret
  exact R.out
set_option maxHeartbeats 2000000 in
theorem bread_some (h : BU w g d Q s) (a kd : Int) (a0 : 0 ≤ a) (a1 : a ≤ 4294967295) (h0 : 0 < s.left) (hn : s.now ≤ 1000000000000) (hc : s.cyc ≤ 1000000000000) (hl : s.x.lim 1000000) (ht : s.tl.length ≤ 1000000) :
    Calls Tryz.prog 20 #[.pointer (some ⟨g, 0, none⟩), .int .u32 a, .int .u8 kd] w (BuR (.int .u8 (s.rdV d a)) g d Q (s.rdS d a kd) w) := by
  have BG := Lib.hid (bbegin_some h a a0 a1 h0 hn hc)
  have HL : Hid ((s.beg d a).x.lim 1000000) := Lib.hid (Hp.lim_to hl)
  clear h h0 hn hc hl
  obtain ⟨v, hv⟩ : ∃ v, s.rdV d a = v := ⟨_, rfl⟩
  have HV : Hid ((s.beg d a).an d a = v) := Lib.hid hv
  have hs : s.rdS d a kd = { (s.beg d a).anS d a with tl := s.tl ++ [⟨s.now, a % 2097152, kd, false, v⟩] } := by unfold Bs.rdS; rw [hv]
  rw [hv, hs]
  clear hv hs
  go_enter Tryz.func20, Tryz.ntmps20
  go_wp2_with fail
  refine BG.out.mono ?_
  rintro e w1 ⟨Q1, rfl, h1, k1, f1, q1⟩
  have H1 := Lib.hid h1
  have K1 := Lib.hid k1
  have F1 := Lib.hid f1
  have E1 := Lib.hid q1
  clear h1 k1 f1 q1
  go_wp2_with fail
  refine (banswer_any H1.out HL.out a a0 a1).mono ?_
  rw [HV.out]
  rintro e w2 ⟨Q2, rfl, h2, k2, f2, q2⟩
  have H2 := Lib.hid h2
  have K2 := Lib.hid k2
  have F2 := Lib.hid f2
  have E2 := Lib.hid q2
  have HT : ((s.beg d a).anS d a).tl.length ≤ 1000000 := by rw [Bs.anS_tl, Bs.beg_tl]; exact ht
  clear h2 k2 f2 q2
  go_wp2_with fail
  refine (btell_any H2.out HT s.now a kd false v a0 a1).mono ?_
  rw [Bs.anS_tl, Bs.beg_tl]
  rintro e w3 ⟨Q3, rfl, h3, k3, f3, q3⟩
  have R := Lib.hid (BuR.then_ K1.out F1.out E1.out (BuR.then_ K2.out F2.out E2.out (show BuR (.int .u8 v) g d Q2 _ w2 (.returned (.int .u8 v)) w3 from ⟨Q3, rfl, h3, k3, f3, q3⟩)))
  clear h3 k3 f3 q3 H1 K1 F1 E1 H2 K2 F2 E2
  go_wp2_with fail
  go_ret
  exact R.out
theorem bwrite_none (h : BU w g d Q s) (a v kd : Int) (h0 : s.left = 0) : Calls Tryz.prog 21 #[.pointer (some ⟨g, 0, none⟩), .int .u32 a, .int .u8 v, .int .u8 kd] w (BuR (.tuple #[]) g d Q { s with over := true } w) := by
  have BG := Lib.hid (bbegin_none h a h0)
  clear h
  go_enter Tryz.func21, Tryz.ntmps21
  go_wp2_with fail
  refine BG.out.mono ?_
  rintro e w1 ⟨Q1, rfl, h1, k1, f1, q1⟩
  have R := Lib.hid (show BuR (.tuple #[]) g d Q { s with over := true } w (.returned (.tuple #[])) w1 from ⟨Q1, rfl, h1, k1, f1, q1⟩)
  clear h1 k1 f1 q1
  go_wp2_with fail
  refine bodyPost_ret (results_none rfl _ _ _) rfl ?_
  exact R.out
set_option maxHeartbeats 2000000 in
theorem bwrite_some (h : BU w g d Q s) (a v kd : Int) (a0 : 0 ≤ a) (a1 : a ≤ 4294967295) (v0 : 0 ≤ v) (v1 : v ≤ 255) (h0 : 0 < s.left) (hn : s.now ≤ 1000000000000) (hc : s.cyc ≤ 1000000000000) (hl : s.x.lim 1000000) (ht : s.tl.length ≤ 1000000) :
    Calls Tryz.prog 21 #[.pointer (some ⟨g, 0, none⟩), .int .u32 a, .int .u8 v, .int .u8 kd] w (BuR (.tuple #[]) g d Q (s.wrS d a v kd) w) := by
  have BG := Lib.hid (bbegin_some h a a0 a1 h0 hn hc)
  have HL : Hid ((s.beg d a).x.lim 1000000) := Lib.hid (Hp.lim_to hl)
  clear h h0 hn hc hl
  unfold Bs.wrS
  go_enter Tryz.func21, Tryz.ntmps21
  go_wp2_with fail
  refine BG.out.mono ?_
  rintro e w1 ⟨Q1, rfl, h1, k1, f1, q1⟩
  have H1 := Lib.hid h1
  have K1 := Lib.hid k1
  have F1 := Lib.hid f1
  have E1 := Lib.hid q1
  clear h1 k1 f1 q1
  go_wp2_with fail
  refine (bchange_any H1.out HL.out a v a0 a1 v0 v1).mono ?_
  rintro e w2 ⟨Q2, rfl, h2, k2, f2, q2⟩
  have H2 := Lib.hid h2
  have K2 := Lib.hid k2
  have F2 := Lib.hid f2
  have E2 := Lib.hid q2
  have HT : ((s.beg d a).chS a v).tl.length ≤ 1000000 := by rw [Bs.chS_tl, Bs.beg_tl]; exact ht
  clear h2 k2 f2 q2
  go_wp2_with fail
  refine (btell_any H2.out HT s.now a kd true v a0 a1).mono ?_
  rw [Bs.chS_tl, Bs.beg_tl]
  rintro e w3 ⟨Q3, rfl, h3, k3, f3, q3⟩
  have R := Lib.hid (BuR.then_ K1.out F1.out E1.out (BuR.then_ K2.out F2.out E2.out (show BuR (.tuple #[]) g d Q2 _ w2 (.returned (.tuple #[])) w3 from ⟨Q3, rfl, h3, k3, f3, q3⟩)))
  clear h3 k3 f3 q3 H1 K1 F1 E1 H2 K2 F2 E2
  go_wp2_with fail
  first | go_end0 | refine bodyPost_ret (results_none rfl _ _ _) rfl ?_
  exact R.out
end
section
variable {w : World} {g : Nat} {d : Hd} {Q : Bp} {s : Bs}
theorem bleft_any (h : BU w g d Q s) : Calls Tryz.prog 24 #[.pointer (some ⟨g, 0, none⟩)] w fun e w' => e = .returned (.int .i64 s.left) ∧ w = w' := by
  have c8 := h.cells.2.2.2.1
  have WK := Lib.hid (bworks_any h)
  clear h
  go_enter Tryz.func24, Tryz.ntmps24
  go_wp2_with fail
  refine WK.out.mono ?_
  rintro e w' ⟨rfl, rfl⟩
  go_wp2_with fail
  go_ret
  exact ⟨rfl, rfl⟩
theorem bover_any (h : BU w g d Q s) : Calls Tryz.prog 35 #[.pointer (some ⟨g, 0, none⟩)] w fun e w' => e = .returned (.bool s.over) ∧ w = w' := by
  have c9 := h.cells.2.2.2.2.1
  clear h
  go_enter Tryz.func35, Tryz.ntmps35
  go_wp2
  go_ret
  exact ⟨rfl, rfl⟩
theorem bnow_any (h : BU w g d Q s) : Calls Tryz.prog 34 #[.pointer (some ⟨g, 0, none⟩)] w fun e w' => e = .returned (.int .i64 s.now) ∧ w = w' := by
  have H := Lib.hid h
  clear h
  go_enter Tryz.func34, Tryz.ntmps34
  go_wp2_with fail
  refine (bknow_any H.out.blk).mono ?_
  rintro e w' ⟨rfl, rfl⟩
  go_wp2_with fail
  go_ret
  exact ⟨rfl, rfl⟩
theorem bfast_any (h : BU w g d Q s) : Calls Tryz.prog 37 #[.pointer (some ⟨g, 0, none⟩)] w fun e w' => e = .returned (.bool s.fast) ∧ w = w' := by
  have H := Lib.hid h
  clear h
  go_enter Tryz.func37, Tryz.ntmps37
  go_wp2_with fail
  refine (bkfast_any H.out.blk).mono ?_
  rintro e w' ⟨rfl, rfl⟩
  go_wp2_with fail
  go_ret
  exact ⟨rfl, rfl⟩
theorem bask_any (h : BU w g d Q s) (x : Bool) : Calls Tryz.prog 22 #[.pointer (some ⟨g, 0, none⟩), .bool x] w (BuR (.tuple #[]) g d Q { s with asked := true, next := x } w) := by
  have WK := Lib.hid (bworks_any h)
  have H := Lib.hid h
  clear h
  go_enter Tryz.func22, Tryz.ntmps22
  go_wp2_with fail
  refine WK.out.mono ?_
  rintro e w' ⟨rfl, rfl⟩
  go_wp2_with fail
  refine (bkask_any x H.out.blk).mono ?_
  rintro e w' ⟨rfl, hb, gb⟩
  have k := Kp.of_gb gb
  have R := Lib.hid (BuR.mk0 (v := .tuple #[]) (H.out.own (s' := { s with asked := true, next := x }) k hb rfl rfl ⟨rfl, rfl, rfl⟩ rfl H.out.ok) (k.mono (by simp [bL])))
  clear hb gb k
  go_wp2_with fail
  first | go_end0 | refine bodyPost_ret (results_none rfl _ _ _) rfl ?_
  exact R.out
def Bs.tn (s : Bs) : Bs := if s.asked then { s with fast := s.next, asked := false, next := false } else s
/-- A bus whose clock asks for nothing has no speed kept. -/
def Bs.tidy (s : Bs) : Prop := s.asked = false → s.next = false
theorem bturn_any (h : BU w g d Q s) (ht : s.tidy) : Calls Tryz.prog 23 #[.pointer (some ⟨g, 0, none⟩)] w (BuR (.tuple #[]) g d Q s.tn w) := by
  have WK := Lib.hid (bworks_any h)
  have H := Lib.hid h
  cases ha : s.asked with
  | false =>
    have hn := ht ha
    have es : s.tn = s := by unfold Bs.tn; rw [ha]; rfl
    rw [es]
    have hbb : Blk w g 139 (buK (buR Q s) s.now s.cyc s.fast false false) := by have := h.blk; unfold buC at this; rwa [ha, hn] at this
    have HBB := Lib.hid hbb
    have EA := Lib.hid ha
    have EN := Lib.hid hn
    clear h es ha hn hbb
    go_enter Tryz.func23, Tryz.ntmps23
    go_wp2_with fail
    refine WK.out.mono ?_
    rintro e w' ⟨rfl, rfl⟩
    go_wp2_with fail
    refine (bkturn_no HBB.out).mono ?_
    rintro e w' ⟨rfl, hb, gb⟩
    have k := Kp.of_gb gb
    have R := Lib.hid (BuR.mk0 (v := .tuple #[]) (H.out.own (s' := s) k (by unfold buC; rw [EA.out, EN.out]; exact hb) rfl rfl ⟨rfl, rfl, rfl⟩ rfl H.out.ok) (k.mono (by simp [bL])))
    clear hb gb k
    go_wp2_with fail
    first | go_end0 | refine bodyPost_ret (results_none rfl _ _ _) rfl ?_
    exact R.out
  | true =>
    have es : s.tn = { s with fast := s.next, asked := false, next := false } := by unfold Bs.tn; rw [ha]; rfl
    rw [es]
    have hbb : Blk w g 139 (buK (buR Q s) s.now s.cyc s.fast true s.next) := by have := h.blk; unfold buC at this; rwa [ha] at this
    have HBB := Lib.hid hbb
    clear h es ha hbb
    go_enter Tryz.func23, Tryz.ntmps23
    go_wp2_with fail
    refine WK.out.mono ?_
    rintro e w' ⟨rfl, rfl⟩
    go_wp2_with fail
    refine (bkturn_yes HBB.out).mono ?_
    rintro e w' ⟨rfl, hb, gb⟩
    have k := Kp.of_gb gb
    have R := Lib.hid (BuR.mk0 (v := .tuple #[]) (H.out.own (s' := { s with fast := s.next, asked := false, next := false }) k hb rfl rfl ⟨rfl, rfl, rfl⟩ rfl H.out.ok) (k.mono (by simp [bL])))
    clear hb gb k
    go_wp2_with fail
    first | go_end0 | refine bodyPost_ret (results_none rfl _ _ _) rfl ?_
    exact R.out
end
end Go.Proofs.YtccimkmlbcgekaaGreat
namespace Go.Proofs.YtccimkmlbcgekaaGreat
open Go.RowKit
set_option maxHeartbeats 2000000 in
theorem copy_any {w : World} {g : Nat} {now cyc : Int} {fast asked next : Bool} (h : Blk w g 152 (rk now cyc fast asked next)) :
    Calls Tryz.prog 67 #[.pointer (some ⟨g, 0, none⟩)] w fun e w' => e = .returned (.pointer (some ⟨w.heap.size, 0, none⟩)) ∧ (Blk w' w.heap.size 152 (rk now cyc fast asked next) ∧ Below w.heap.size w w') := by
  obtain ⟨c0, c1, c2, c3, c4, hf⟩ := rk_cells h
  go_enter Tryz.func67, Tryz.ntmps67
  go_wp2
  go_region
  all_goals
    go_wp2
    go_ret
    exact ⟨rfl, Blk.new w 152 _, ((Below.refl _ _).alloc (Nat.le_refl _) _).drew⟩
theorem at_new (n : Int) (f : Bool) (w : World) : Calls Tryz.prog 99 #[.int .i64 n, .bool f] w fun e w' => e = .returned (.pointer (some ⟨w.heap.size, 0, none⟩)) ∧ (Blk w' w.heap.size 132 (ck (heldI n) 0 f false false) ∧ Below w.heap.size w w') :=
  (at_any n f w).mono fun _ _ ⟨a, b⟩ => ⟨a, by rw [b]; exact ⟨Blk.new w 132 _, (Below.refl _ _).alloc (Nat.le_refl _) _⟩⟩
theorem rat_new (n : Int) (f : Bool) (w : World) : Calls Tryz.prog 52 #[.int .i64 n, .bool f] w fun e w' => e = .returned (.pointer (some ⟨w.heap.size, 0, none⟩)) ∧ (Blk w' w.heap.size 152 (rk (heldI n) 0 f false false) ∧ Below w.heap.size w w') :=
  (rat_any n f w).mono fun _ _ ⟨a, b⟩ => ⟨a, by rw [b]; exact ⟨Blk.new w 152 _, (Below.refl _ _).alloc (Nat.le_refl _) _⟩⟩
theorem cknew_any (w : World) : Calls Tryz.prog 49 #[] w fun e w' => e = .returned (.pointer (some ⟨w.heap.size, 0, none⟩)) ∧ (Blk w' w.heap.size 132 (ck 0 0 false false false) ∧ Below w.heap.size w w') := by
  go_enter Tryz.func49, Tryz.ntmps49
  go_wp2_with (go_at_call 99; refine (at_new _ _ _).mono ?_; rintro e w1 ⟨rfl, h1, h2⟩)
  go_ret
  exact ⟨rfl, h1, h2⟩
theorem below_gb {B : Nat} {a w w' : World} {g : Nat} (h : Below B a w) (hg : w.grownBy w' (some g)) (hB : B ≤ w.heap.size) (hr : B ≤ g) : Below B a w' :=
  h.grown hg hB (fun k e => by cases e; exact hr)
end Go.Proofs.YtccimkmlbcgekaaGreat
namespace Go.Proofs.YtccimkmlbcgekaaGreat
open Go.RowKit
set_option linter.unusedVariables false
set_option linter.unusedSimpArgs false
set_option maxRecDepth 100000
/-- A budget, held. -/
def bud (n : Int) : Int := if 1099511627776 < (if n < 0 then 0 else n) then 1099511627776 else if n < 0 then 0 else n
theorem bud_bd (n : Int) : 0 ≤ bud n ∧ bud n ≤ 1099511627776 := by unfold bud; (repeat' split) <;> omega
def Bs.new (rv : Value) (rn : Nat) (rz : Nat → Int) (x : Hp) (b : Int) : Bs := ⟨0, 0, false, false, false, rv, rn, rz, fun _ => 0, x, bud b, false, []⟩
/-- What New leaves: a bus of its own, on the page that was there. -/
def BnR (p : Nat) (d : Hd) (b : Hb) (x : Hp) (rn : Nat) (rz : Nat → Int) (bu : Int) (w : World) (e : Ending) (w' : World) : Prop :=
  ∃ g m rv, e = .returned (.pointer (some ⟨g, 0, none⟩)) ∧ w.heap.size ≤ g ∧ w.heap.size ≤ m ∧ BU w' g d ⟨m, none, p, b, .slice none 0 0⟩ (Bs.new rv rn rz x bu) ∧ Below w.heap.size w w'
set_option maxHeartbeats 8000000 in
theorem bnew_any {w : World} {p : Nat} {d : Hd} {b : Hb} {x : Hp} (hp : HP w p d b x) {A : Option Addr} {n c : Nat} {z : Nat → Int} (hA : A = none → n = 0 ∧ c = 0) (hm : n ≤ 140737488355328) (R : IRow w .u8 A n z) (bu : Int) :
    Calls Tryz.prog 10 #[.slice A n c, .pointer (some ⟨p, 0, none⟩), .int .i64 bu] w (BnR p d b x n z bu w) := by
  have HPP := Lib.hid hp
  have HR := Lib.hid R
  have HA := Lib.hid hA
  clear hp R hA
  obtain ⟨l, hl⟩ : ∃ l, bud bu = l := ⟨_, rfl⟩
  have HL := Lib.hid hl
  unfold bud at hl
  go_enter Tryz.func10, Tryz.ntmps10
  go_upto_region 1 with fail
  refine rg_begin (S := fun w' => True) 13 #[false, false, false, false, false, false, false, false, false, false, false, false, false] (by kernel_rfl) (by kernel_rfl) (by kernel_rfl) ?_ (fun hHeld => ?_)
  · all_goals trivial
  have HP0 := Lib.hid (HPP.out.kp0 (Kp.refl _ _).drew)
  have HR0 : Hid (IRow w.drew .u8 A n z) := Lib.hid HR.out
  have HB0 : Hid (Below w.heap.size w w.drew) := Lib.hid (Below.refl _ _).drew
  clear HPP HR
  generalize World.drew w = w0 at *
  refine rg_take (i := 3) (d := some 10) (l := #[false, false, false, true, false, false, false, false, false, false, false, false, false]) (fuel := 12) (v := ?_) rfl (by kernel_rfl) (by kernel_rfl) (by kernel_rfl) (by kernel_rfl) (by kernel_rfl) (fun _ _ _ h => h) (by kernel_rfl) ?_ (by assumption) ?_
  rotate_left 1
  · (intro wS hSw; (try dsimp only at hSw); go_simp; try with_reducible rfl)
  try simp only [Act.put, List.setIfInBounds_toArray, List.set_cons_zero, List.set_cons_succ]
  refine rg_take (i := 6) (d := some 13) (l := #[false, false, false, true, false, false, true, false, false, false, false, false, false]) (fuel := 11) (v := ?_) rfl (by kernel_rfl) (by kernel_rfl) (by kernel_rfl) (by kernel_rfl) (by kernel_rfl) (fun _ _ _ h => h) (by kernel_rfl) ?_ (by assumption) ?_
  rotate_left 1
  · (intro wS hSw; (try dsimp only at hSw); go_simp; try with_reducible rfl)
  try simp only [Act.put, List.setIfInBounds_toArray, List.set_cons_zero, List.set_cons_succ]
  refine rg_take (i := 7) (d := some 14) (l := #[false, false, false, true, false, false, true, true, false, false, false, false, false]) (fuel := 10) (v := ?_) rfl (by kernel_rfl) (by kernel_rfl) (by kernel_rfl) (by kernel_rfl) (by kernel_rfl) (fun _ _ _ h => h) (by kernel_rfl) ?_ (by assumption) ?_
  rotate_left 1
  · (intro wS hSw; (try dsimp only at hSw); go_simp; try with_reducible rfl)
  try simp only [Act.put, List.setIfInBounds_toArray, List.set_cons_zero, List.set_cons_succ]
  refine rg_take (i := 8) (d := some 15) (l := #[false, false, false, true, false, false, true, true, true, false, false, false, false]) (fuel := 9) (v := ?_) rfl (by kernel_rfl) (by kernel_rfl) (by kernel_rfl) (by kernel_rfl) (by kernel_rfl) (fun _ _ _ h => h) (by kernel_rfl) ?_ (by assumption) ?_
  rotate_left 1
  · (intro wS hSw; (try dsimp only at hSw); go_simp; try with_reducible rfl)
  try simp only [Act.put, List.setIfInBounds_toArray, List.set_cons_zero, List.set_cons_succ]
  refine rg_take (i := 9) (d := some 16) (l := #[false, false, false, true, false, false, true, true, true, true, false, false, false]) (fuel := 8) (v := ?_) rfl (by kernel_rfl) (by kernel_rfl) (by kernel_rfl) (by kernel_rfl) (by kernel_rfl) (fun _ _ _ h => h) (by kernel_rfl) ?_ (by assumption) ?_
  rotate_left 1
  · (intro wS hSw; (try dsimp only at hSw); go_simp; try with_reducible rfl)
  try simp only [Act.put, List.setIfInBounds_toArray, List.set_cons_zero, List.set_cons_succ]
  try rw [hl]
  clear hl
  obtain ⟨gc, hgc⟩ : ∃ gc, w0.heap.size = gc := ⟨_, rfl⟩
  refine rg_next (i := 0) (l := #[true, false, false, true, false, false, true, true, true, true, false, false, false]) (fuel := 7) (by kernel_rfl) rfl (by kernel_rfl) (by kernel_rfl) (fun K hK => ?_)
  go_simp
  (go_at_call 49)
  refine (cknew_any w0).mono ?_
  rw [hgc]
  rintro e w1 ⟨rfl, hc1, b1⟩
  rw [← hgc] at b1
  have HC1 : Hid (Blk w1 gc 132 #[.int .i64 0, .int .i64 0, .bool false, .bool false, .bool false]) := Lib.hid hc1
  have HP1 := Lib.hid (HP0.out.keep b1)
  have HR1 := Lib.hid (HR0.out.keep b1)
  have HB1 := Lib.hid (HB0.out.trans (b1.mono HB0.out.size))
  clear hc1 b1 hgc
  first | (refine hK.out _ _ ?_ (fun hHeld => ?_)) | (go_wp2_with fail; refine hK.out _ _ ?_ (fun hHeld => ?_))
  · (try dsimp only); all_goals trivial
  clear hK K
  try simp only [Act.put, List.setIfInBounds_toArray, List.set_cons_zero, List.set_cons_succ]
  refine rg_take (i := 1) (d := some 8) (l := #[true, true, false, true, false, false, true, true, true, true, false, false, false]) (fuel := 6) (v := ?_) rfl (by kernel_rfl) (by kernel_rfl) (by kernel_rfl) (by kernel_rfl) (by kernel_rfl) (fun _ _ _ h => h) (by kernel_rfl) ?_ (by assumption) ?_
  rotate_left 1
  · (intro wS hSw; (try dsimp only at hSw); go_simp; try with_reducible rfl)
  try simp only [Act.put, List.setIfInBounds_toArray, List.set_cons_zero, List.set_cons_succ]
  refine rg_more (S' := fun w' => Blk w' gc 132 #[.int .i64 0, .int .i64 0, .bool false, .bool false, .bool false]) (fun w h => trivial) _ _ _ _ ?_
  clear hHeld
  have hHeld : (fun w' : World => Blk w' gc 132 #[.int .i64 0, .int .i64 0, .bool false, .bool false, .bool false]) _ := HC1.out
  refine rg_take (i := 2) (d := some 9) (l := #[true, true, true, true, false, false, true, true, true, true, false, false, false]) (fuel := 5) (v := .agg #[.int .i64 0, .int .i64 0, .bool false, .bool false, .bool false]) rfl (by kernel_rfl) (by kernel_rfl) (by kernel_rfl) (by kernel_rfl) (by kernel_rfl) (fun _ _ _ h => h) (by kernel_rfl) ?_ (by assumption) ?_
  · (intro wS hSw; (try dsimp only at hSw); exact exec_load_row 132 (.tmp 8) rfl gc rfl 132 #[.int .i64 0, .int .i64 0, .bool false, .bool false, .bool false] (0, 0) _ hSw Tryz.underlying132 rfl (by kernel_rfl))
  try simp only [Act.put, List.setIfInBounds_toArray, List.set_cons_zero, List.set_cons_succ]
  refine rg_next (i := 4) (l := #[true, true, true, true, true, false, true, true, true, true, false, false, false]) (fuel := 4) (by kernel_rfl) rfl (by kernel_rfl) (by kernel_rfl) (fun K hK => ?_)
  go_simp
  (go_at_call 50)
  refine (sclone_any A n c z HA.out hm HR1.out).mono ?_
  rintro e w2 ⟨v, rfl, hs2, b2⟩
  obtain ⟨A', cap, rfl, s1, s2, s3, s4, s5⟩ := hs2
  have HS2 : Hid (SliceB w2 (.slice A' n cap) n z) := Lib.hid ⟨A', cap, rfl, s1, s2, s3, s4, s5⟩
  have HC2 := Lib.hid (HC1.out.below b2 HC1.out.lt)
  have HP2 := Lib.hid (HP1.out.keep b2)
  have HB2 := Lib.hid (HB1.out.trans (b2.mono HB1.out.size))
  clear b2 s1 s2 s3 s4 s5
  first | (refine hK.out _ _ ?_ (fun hHeld => ?_)) | (go_wp2_with fail; refine hK.out _ _ ?_ (fun hHeld => ?_))
  · (try dsimp only); exact HC2.out
  clear hK K
  try simp only [Act.put, List.setIfInBounds_toArray, List.set_cons_zero, List.set_cons_succ]
  obtain ⟨m, hgm⟩ : ∃ m, w2.heap.size = m := ⟨_, rfl⟩
  refine rg_next (i := 5) (l := #[true, true, true, true, true, true, true, true, true, true, false, false, false]) (fuel := 3) (by kernel_rfl) rfl (by kernel_rfl) (by kernel_rfl) (fun K hK => ?_)
  go_simp
  (go_at_call 51)
  refine (rnew_any w2).mono ?_
  rw [hgm]
  rintro e w3 ⟨rfl, hr3, b3⟩
  rw [← hgm] at b3
  have HM3 := Lib.hid hr3
  have HC3 := Lib.hid (HC2.out.below b3 HC2.out.lt)
  have HP3 := Lib.hid (HP2.out.keep b3)
  have HS3 := Lib.hid (HS2.out.keep b3)
  have HB3 := Lib.hid (HB2.out.trans (b3.mono HB2.out.size))
  have hmw : w.heap.size ≤ m := by rw [← hgm]; exact HB2.out.size
  clear hr3 b3 hgm
  first | (refine hK.out _ _ ?_ (fun hHeld => ?_)) | (go_wp2_with fail; refine hK.out _ _ ?_ (fun hHeld => ?_))
  · (try dsimp only); exact HC3.out
  clear hK K
  try simp only [Act.put, List.setIfInBounds_toArray, List.set_cons_zero, List.set_cons_succ]
  refine rg_take (i := 10) (d := some 17) (l := #[true, true, true, true, true, true, true, true, true, true, true, false, false]) (fuel := 2) (v := ?_) rfl (by kernel_rfl) (by kernel_rfl) (by kernel_rfl) (by kernel_rfl) (by kernel_rfl) (fun _ _ _ h => h) (by kernel_rfl) ?_ (by assumption) ?_
  rotate_left 1
  · (intro wS hSw; (try dsimp only at hSw); go_simp; try with_reducible rfl)
  try simp only [Act.put, List.setIfInBounds_toArray, List.set_cons_zero, List.set_cons_succ]
  have HC4 := Lib.hid (HC3.out.alloc (.cells #[.int .i64 0, .int .i64 0, .bool false, .bool false, .bool false, .slice A' n cap, .pointer (some ⟨m, 0, none⟩), .pointer (some ⟨p, 0, none⟩), .int .i64 l, .bool false, .slice none 0 0] 139))
  refine rg_next (i := 11) (l := #[true, true, true, true, true, true, true, true, true, true, true, true, false]) (fuel := 1) (by kernel_rfl) rfl (by kernel_rfl) (by kernel_rfl) (fun K hK => ?_)
  go_simp
  skip
  first | (refine hK.out _ _ ?_ (fun hHeld => ?_)) | (go_wp2_with fail; refine hK.out _ _ ?_ (fun hHeld => ?_))
  · (try dsimp only); exact HC4.out
  clear hK K
  try simp only [Act.put, List.setIfInBounds_toArray, List.set_cons_zero, List.set_cons_succ]
  refine rg_take (i := 12) (d := some 6) (l := #[true, true, true, true, true, true, true, true, true, true, true, true, true]) (fuel := 0) (v := ?_) rfl (by kernel_rfl) (by kernel_rfl) (by kernel_rfl) (by kernel_rfl) (by kernel_rfl) (fun _ _ _ h => h) (by kernel_rfl) ?_ (by assumption) ?_
  rotate_left 1
  · (intro wS hSw; (try dsimp only at hSw); go_simp; try with_reducible rfl)
  try simp only [Act.put, List.setIfInBounds_toArray, List.set_cons_zero, List.set_cons_succ]
  refine wpAnyH_done (by kernel_rfl) ?_ _
  clear hHeld
  have k4 : Kp [] w3 (w3.alloc (.cells #[.int .i64 0, .int .i64 0, .bool false, .bool false, .bool false, .slice A' n cap, .pointer (some ⟨m, 0, none⟩), .pointer (some ⟨p, 0, none⟩), .int .i64 l, .bool false, .slice none 0 0] 139)) := (Kp.refl _ _).alloc _
  have b4 : Below w3.heap.size w3 (w3.alloc (.cells #[.int .i64 0, .int .i64 0, .bool false, .bool false, .bool false, .slice A' n cap, .pointer (some ⟨m, 0, none⟩), .pointer (some ⟨p, 0, none⟩), .int .i64 l, .bool false, .slice none 0 0] 139)) := (Below.refl _ _).alloc (Nat.le_refl _) _
  have hbl := bud_bd bu
  have HBU : Hid (BU (w3.alloc (.cells #[.int .i64 0, .int .i64 0, .bool false, .bool false, .bool false, .slice A' n cap, .pointer (some ⟨m, 0, none⟩), .pointer (some ⟨p, 0, none⟩), .int .i64 l, .bool false, .slice none 0 0] 139)) w3.heap.size d ⟨m, none, p, b, .slice none 0 0⟩ (Bs.new (.slice A' n cap) n z x bu)) := Lib.hid ⟨by unfold buC buK Bs.new; dsimp only [buR]; rw [HL.out]; exact Blk.new_ rfl, HM3.out.keep b4, HP3.out.keep b4, HS3.out.keep b4, World.ownsRow_nil _ _ _ _, ⟨Int.le_refl 0, Int.le_refl 0, hbl.1, hbl.2, fun i _ => ⟨Int.le_refl 0, (by decide : (0 : Int) ≤ 255)⟩⟩⟩
  have HB4 : Hid (Below w.heap.size w (w3.alloc (.cells #[.int .i64 0, .int .i64 0, .bool false, .bool false, .bool false, .slice A' n cap, .pointer (some ⟨m, 0, none⟩), .pointer (some ⟨p, 0, none⟩), .int .i64 l, .bool false, .slice none 0 0] 139))) := Lib.hid (HB3.out.alloc HB3.out.size _)
  have hgw := HB3.out.size
  clear k4 b4 hbl
  go_wp2_with fail
  all_goals
    go_ret
    exact ⟨_, m, _, rfl, hgw, hmw, HBU.out, HB4.out⟩
end Go.Proofs.YtccimkmlbcgekaaGreat
