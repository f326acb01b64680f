/-
  Texts of these proofs, one behind the other: Bus9, Bus10, Rb4.
-/
import Derived.Test.YtleofglnlfpoeaaGreatKBP36
import Derived.Test.YtleofglnlfpoeaaGreatKBP22
import Derived.Test.YtleofglnlfpoeaaGreatKBP34
namespace Go.Proofs.YtleofglnlfpoeaaGreat
open Go.RowKit
set_option linter.unusedVariables false
set_option linter.unusedSimpArgs false
set_option maxRecDepth 100000
/-- A bus that was made since. -/
structure BT (B : Nat) (W w : World) (g : Nat) (d : Hd) (Q : Bp) (s : Bs) : Prop where
  u : BU w g d Q s
  bw : Below B W w
  sz : B ≤ w.heap.size
  lo : ∀ y ∈ bL g Q, B ≤ y
section
variable {B : Nat} {W w w' : World} {g : Nat} {d : Hd} {Q : Bp} {s s' : Bs}
theorem BT.go {v : Value} {e : Ending} (h : BT B W w g d Q s) (r : BuR v g d Q s' w e w') :
    ∃ Q', e = .returned v ∧ BT B W w' g d Q' s' ∧ Kp (bL g Q) w w' ∧ (∀ y ∈ bL g Q', y ∈ bL g Q ∨ w.heap.size ≤ y) ∧ Q'.p = Q.p ∧ Q'.b = Q.b ∧ Q'.m = Q.m := by
  obtain ⟨Q', e1, hb, k, fr, q⟩ := r
  refine ⟨Q', e1, ⟨hb, k.onto h.bw h.sz h.lo, Nat.le_trans h.sz k.size, fun y hy => ?_⟩, k, fr, q⟩
  rcases fr y hy with h1 | h1
  · exact h.lo y h1
  · exact Nat.le_trans h.sz h1
theorem BT.on (h : BT B W w g d Q s) (b : Below w.heap.size w w') : BT B W w' g d Q s := ⟨h.u.keep b, h.bw.trans (b.mono h.sz), Nat.le_trans h.sz b.size, h.lo⟩
theorem BT.kp0 (h : BT B W w g d Q s) (k : Kp [] w w') : BT B W w' g d Q s := ⟨h.u.kp0 k, k.onto h.bw h.sz (by simp), Nat.le_trans h.sz k.size, h.lo⟩
/-- A bus that is made on a page that was made since. -/
theorem BT.new {p : Nat} {b : Hb} {x : Hp} {rn : Nat} {rz : Nat → Int} {bu : Int} {e : Ending} (h1 : Below B W w) (h2 : B ≤ w.heap.size) (hp : B ≤ p ∧ B ≤ b.v ∧ B ≤ b.c ∧ B ≤ b.p) (r : BnR p d b x rn rz bu w e w') :
    ∃ g Q rv, e = .returned (.pointer (some ⟨g, 0, none⟩)) ∧ BT B W w' g d Q (Bs.new rv rn rz x bu) ∧ Below w.heap.size w w' ∧ w.heap.size ≤ g := by
  obtain ⟨g, m, rv, e1, hg, hm, hb, k⟩ := r
  refine ⟨g, _, rv, e1, ⟨hb, h1.trans (k.mono h2), Nat.le_trans h2 k.size, fun y hy => ?_⟩, k, hg⟩
  rcases mem_bL.1 hy with rfl | rfl | e | rfl | rfl | rfl | rfl | e
  · exact Nat.le_trans h2 hg
  · exact Nat.le_trans h2 hm
  · cases e
  · exact hp.1
  · exact hp.2.1
  · exact hp.2.2.1
  · exact hp.2.2.2
  · cases e
end
theorem bstatus_nil (w : World) : Calls Tryz.prog 29 #[.pointer none] w fun e w' => e = .returned (.agg #[.int .u8 0, .int .u8 0, .int .u8 0, .int .u8 0, .int .u8 0, .int .i64 0, .bool false, .bool false, .bool false, .int .i64 0, .int .i64 0, .int .i64 0]) ∧ Below w.heap.size w w' := by
  go_enter Tryz.func29, Tryz.ntmps29
  go_wp2_with fail
  have hb := Blk.new w 68 #[.int .u8 0, .int .u8 0, .int .u8 0, .int .u8 0, .int .u8 0, .int .i64 0, .bool false, .bool false, .bool false, .int .i64 0, .int .i64 0, .int .i64 0]
  have hB : Below w.heap.size w (w.alloc (.cells #[.int .u8 0, .int .u8 0, .int .u8 0, .int .u8 0, .int .u8 0, .int .i64 0, .bool false, .bool false, .bool false, .int .i64 0, .int .i64 0, .int .i64 0] 68)) := (Below.refl _ _).alloc (Nat.le_refl _) _
  have HBL := Lib.hid hb
  have HBB := Lib.hid hB
  clear hb hB
  generalize World.alloc _ _ = w1 at *
  have y0 : w1.cell? ⟨w.heap.size, 0, none⟩ = some (.int .u8 0) := HBL.out.cell 0
  have y1 : w1.cell? ⟨w.heap.size, 1, none⟩ = some (.int .u8 0) := HBL.out.cell 1
  have y2 : w1.cell? ⟨w.heap.size, 2, none⟩ = some (.int .u8 0) := HBL.out.cell 2
  have y3 : w1.cell? ⟨w.heap.size, 3, none⟩ = some (.int .u8 0) := HBL.out.cell 3
  have y4 : w1.cell? ⟨w.heap.size, 4, none⟩ = some (.int .u8 0) := HBL.out.cell 4
  have y5 : w1.cell? ⟨w.heap.size, 5, none⟩ = some (.int .i64 0) := HBL.out.cell 5
  have y6 : w1.cell? ⟨w.heap.size, 6, none⟩ = some (.bool false) := HBL.out.cell 6
  have y7 : w1.cell? ⟨w.heap.size, 7, none⟩ = some (.bool false) := HBL.out.cell 7
  have y8 : w1.cell? ⟨w.heap.size, 8, none⟩ = some (.bool false) := HBL.out.cell 8
  have y9 : w1.cell? ⟨w.heap.size, 9, none⟩ = some (.int .i64 0) := HBL.out.cell 9
  have y10 : w1.cell? ⟨w.heap.size, 10, none⟩ = some (.int .i64 0) := HBL.out.cell 10
  have y11 : w1.cell? ⟨w.heap.size, 11, none⟩ = some (.int .i64 0) := HBL.out.cell 11
  refine bodyPost_ret (v := .agg #[.int .u8 0, .int .u8 0, .int .u8 0, .int .u8 0, .int .u8 0, .int .i64 0, .bool false, .bool false, .bool false, .int .i64 0, .int .i64 0, .int .i64 0]) (by simp [results, Tryz.results29, go_sem, y0, y1, y2, y3, y4, y5, y6, y7, y8, y9, y10, y11]) rfl ?_
  exact ⟨rfl, HBB.out⟩
def dL : Hd := ⟨0, es0, 1, fun _ => 7, 0, fun _ => 0, 0, fun _ => 0⟩
def bS0 (rv : Value) : Bs := Bs.new rv 1 (fun _ => 234) Hp.new 2
def bS1 (rv : Value) : Bs := (bS0 rv).rdS dL 0 0
def bS2 (rv : Value) : Bs := (bS1 rv).rdS dL 2088960 3
theorem q19_v1 (rv : Value) : (bS0 rv).rdV dL 0 = 234 := by kernel_rfl
theorem q19_v2 (rv : Value) : (bS1 rv).rdV dL 2088960 = 7 := by kernel_rfl
theorem q19_l (rv : Value) : (bS0 rv).left = 2 ∧ (bS1 rv).left = 1 ∧ (bS2 rv).left = 0 := ⟨by kernel_rfl, by kernel_rfl, by kernel_rfl⟩
theorem q19_n (rv : Value) : (bS0 rv).now = 0 ∧ (bS1 rv).now = 12 ∧ (bS2 rv).now = 36 ∧ (bS0 rv).cyc = 0 ∧ (bS1 rv).cyc = 1 := ⟨by kernel_rfl, by kernel_rfl, by kernel_rfl, by kernel_rfl, by kernel_rfl⟩
theorem q19_t (rv : Value) : (bS2 rv).tl = [⟨0, 0, 0, false, 234⟩, ⟨12, 2088960, 3, false, 7⟩] := by kernel_rfl
theorem q19_x (rv : Value) : (bS0 rv).x.lim 1000000 ∧ (bS1 rv).x.lim 1000000 := ⟨⟨Nat.zero_le _, Nat.zero_le _, Nat.zero_le _⟩, ⟨Nat.zero_le _, Nat.zero_le _, Nat.zero_le _⟩⟩
theorem q19_tl (rv : Value) : (bS0 rv).tl.length ≤ 1000000 ∧ (bS1 rv).tl.length ≤ 1000000 := ⟨by show 0 ≤ 1000000; omega, by show 1 ≤ 1000000; omega⟩
theorem irow_one {w : World} {b : Nat} {x : Int} (h : Blk w b 5 #[.int .u8 x]) (hw : (Lit.int .u8 x).wf = true) : IRow w .u8 (some ⟨b, 0, none⟩) 1 (fun _ => x) := fun i hi => by
  obtain rfl : i = 0 := by omega
  exact ⟨_, rfl, h.lt, h.cell 0, hw⟩
set_option maxHeartbeats 16000000 in
theorem live19 (w : World) : Calls Tryz.prog 4 #[] w fun e w' => e = .returned (.bool true) ∧ Below w.heap.size w w' := by
  have hx1 : Blk (w.alloc (.cells #[.int .u8 7] 5)) w.heap.size 5 #[.int .u8 7] := Blk.new_ rfl
  have hb1 : Below w.heap.size w (w.alloc (.cells #[.int .u8 7] 5)) := (Below.refl _ _).alloc (Nat.le_refl _) _
  have hs1 : w.heap.size ≤ (w.alloc (.cells #[.int .u8 7] 5)).heap.size := hb1.size
  go_enter Tryz.func4, Tryz.ntmps4
  go_wp2_with fail
  obtain ⟨bb, hbb⟩ : ∃ b, w.heap.size = b := ⟨_, rfl⟩
  try rw [hbb]
  rw [hbb] at hx1
  generalize World.alloc w _ = w1 at *
  have HX1 := Lib.hid hx1
  have HB1 := Lib.hid hb1
  clear hx1 hb1
  refine (hnew_yes (z1 := fun _ => 7) (z2 := fun _ => 0) (z3 := fun _ => 0) (es := es0) (fun h => by cases h) (fun _ => ⟨rfl, rfl⟩) (fun _ => ⟨rfl, rfl⟩) (fun _ => ⟨rfl, rfl⟩) (irow_one HX1.out (by decide)) (fun i hi => absurd hi (by omega)) (fun i hi => absurd hi (by omega)) (fun i hi => absurd hi (by omega)) (by omega) (by omega) (by decide) ⟨by omega, fun j hj => absurd hj (by omega), fun j hj => absurd hj (by omega)⟩).mono ?_
  rintro e w2 ⟨p, b, rfl, hg2, hp2, b2⟩
  have HB2 := Lib.hid (HB1.out.trans (b2.mono HB1.out.size))
  have HP2 : Hid (HP w2 p dL b Hp.new) := Lib.hid hp2
  have hpl : w.heap.size ≤ p ∧ w.heap.size ≤ b.v ∧ w.heap.size ≤ b.c ∧ w.heap.size ≤ b.p := by omega
  clear hp2 b2 hg2 HX1 hs1
  go_upto_region 2 with fail
  have hb3 : Below w.heap.size w (w2.alloc (.cells #[.int .i64 0, .int .i64 0] 34)) := HB2.out.alloc HB2.out.size _
  have hp3 : HP (w2.alloc (.cells #[.int .i64 0, .int .i64 0] 34)) p dL b Hp.new := HP2.out.kp0 ((Kp.refl _ _).alloc _)
  generalize w2.heap.size = gf at *
  generalize World.alloc w2 _ = w3 at *
  have HB3 := Lib.hid hb3
  have HP3 := Lib.hid hp3
  clear hb3 hp3 HB1 HB2 HP2
  have hx4 : Blk (w3.alloc (.cells #[.int .u8 234] 5)) w3.heap.size 5 #[.int .u8 234] := Blk.new_ rfl
  have hb4 : Below w.heap.size w (w3.alloc (.cells #[.int .u8 234] 5)) := HB3.out.alloc HB3.out.size _
  have hp4 : HP (w3.alloc (.cells #[.int .u8 234] 5)) p dL b Hp.new := HP3.out.kp0 ((Kp.refl _ _).alloc _)
  have HX4 := Lib.hid hx4
  have HB4 := Lib.hid hb4
  have HP4 := Lib.hid hp4
  clear hx4 hb4 hp4
  go_wp2_with fail
  refine (bnew_any HP4.out (fun h => by cases h) (by omega) (irow_one HX4.out (by decide)) 2).mono ?_
  rintro e w5 r5
  obtain ⟨g, Q, rv, rfl, t5, -, -⟩ := BT.new HB4.out HB4.out.size hpl r5
  have T0 : Hid (BT w.heap.size w w5 g dL Q (bS0 rv)) := Lib.hid t5
  clear t5 r5 HX4 HB4 HP4 HB3 HP3 hpl
  go_wp2_with fail
  refine (bread_some T0.out.u 0 0 (by omega) (by omega) (by rw [(q19_l rv).1]; omega) (by rw [(q19_n rv).1]; omega) (by rw [(q19_n rv).2.2.2.1]; omega) (q19_x rv).1 (q19_tl rv).1).mono ?_
  rw [q19_v1 rv]
  rintro e x0 r
  obtain ⟨Q1, rfl, t, -⟩ := T0.out.go r
  have T1 : Hid (BT w.heap.size w x0 g dL Q1 (bS1 rv)) := Lib.hid t
  clear t r T0
  go_wp2_with fail
  refine (bread_some T1.out.u 2088960 3 (by omega) (by omega) (by rw [(q19_l rv).2.1]; omega) (by rw [(q19_n rv).2.1]; omega) (by rw [(q19_n rv).2.2.2.2]; omega) (q19_x rv).2 (q19_tl rv).2).mono ?_
  rw [q19_v2 rv]
  rintro e x1 r
  obtain ⟨Q2, rfl, t, -⟩ := T1.out.go r
  have T2 : Hid (BT w.heap.size w x1 g dL Q2 (bS2 rv)) := Lib.hid t
  clear t r T1
  go_wp2_with fail
  refine (bread_none T2.out.u 0 0 (q19_l rv).2.2).mono ?_
  rintro e x2 r
  obtain ⟨Q3, rfl, t, -⟩ := T2.out.go r
  have T3 := Lib.hid t
  clear t r T2
  go_wp2_with fail
  refine (btrace_any T3.out.u (by show (bS2 rv).tl.length ≤ 1000000; rw [q19_t]; decide)).mono ?_
  rintro e x3 ⟨A, cap, rfl, -, -, hf, -, -, b3⟩
  have hf : FRow x3 5 A 2 (accF [⟨0, 0, 0, false, 234⟩, ⟨12, 2088960, 3, false, 7⟩]) := by have := hf; rwa [show ({ bS2 rv with over := true } : Bs).tl = [⟨0, 0, 0, false, 234⟩, ⟨12, 2088960, 3, false, 7⟩] from q19_t rv] at this
  have elen : ({ bS2 rv with over := true } : Bs).tl.length = 2 := by show (bS2 rv).tl.length = 2; rw [q19_t]; rfl
  rw [elen]
  have T4 := Lib.hid (T3.out.on b3)
  clear b3 T3 elen
  obtain ⟨ad, rfl, hl, hc⟩ := hf 0 (by omega)
  obtain ⟨ad2, e2, -, hc2⟩ := hf 1 (by omega)
  obtain rfl := Option.some.inj e2
  have a0 : x3.cell? ad = some (.int .i64 0) := hc 0 (by omega)
  have b0 : x3.cell? ⟨ad.block, ad.off + 5, none⟩ = some (.int .i64 12) := hc2 0 (by omega)
  have a1 : x3.cell? ⟨ad.block, ad.off + 1, none⟩ = some (.int .u32 0) := hc 1 (by omega)
  have b1 : x3.cell? ⟨ad.block, ad.off + 5 + 1, none⟩ = some (.int .u32 2088960) := hc2 1 (by omega)
  have a2 : x3.cell? ⟨ad.block, ad.off + 2, none⟩ = some (.int .u8 0) := hc 2 (by omega)
  have b2 : x3.cell? ⟨ad.block, ad.off + 5 + 2, none⟩ = some (.int .u8 3) := hc2 2 (by omega)
  have a3 : x3.cell? ⟨ad.block, ad.off + 3, none⟩ = some (.bool false) := hc 3 (by omega)
  have b3 : x3.cell? ⟨ad.block, ad.off + 5 + 3, none⟩ = some (.bool false) := hc2 3 (by omega)
  have a4 : x3.cell? ⟨ad.block, ad.off + 4, none⟩ = some (.int .u8 234) := hc 4 (by omega)
  have b4 : x3.cell? ⟨ad.block, ad.off + 5 + 4, none⟩ = some (.int .u8 7) := hc2 4 (by omega)
  clear hf hc hc2 e2
  go_wp2_with fail
  refine (bwrite_nil _ 0 0 0).mono ?_
  rintro e w' ⟨rfl, rfl⟩
  go_wp2_with fail
  refine (bask_nil _ true).mono ?_
  rintro e w' ⟨rfl, rfl⟩
  go_wp2_with fail
  refine (bturn_nil _).mono ?_
  rintro e w' ⟨rfl, rfl⟩
  go_wp2_with fail
  refine (bentered_nil _ 1).mono ?_
  rintro e w' ⟨rfl, rfl⟩
  go_wp2_with fail
  clear a0 a1 a2 a3 a4 b0 b1 b2 b3 b4
  refine (bnow_any T4.out.u).mono ?_
  rw [show ({ bS2 rv with over := true } : Bs).now = 36 from (q19_n rv).2.2.1]
  rintro e w' ⟨rfl, rfl⟩
  go_wp2_with fail
  refine (bleft_any T4.out.u).mono ?_
  rw [show ({ bS2 rv with over := true } : Bs).left = 0 from (q19_l rv).2.2]
  rintro e w' ⟨rfl, rfl⟩
  go_wp2_with fail
  refine (bread_nil _ 0 0).mono ?_
  rintro e w' ⟨rfl, rfl⟩
  go_wp2_with fail
  refine (bpeek_nil _ 0).mono ?_
  rintro e w' ⟨rfl, rfl⟩
  go_wp2_with fail
  refine (bnow_nil _).mono ?_
  rintro e w' ⟨rfl, rfl⟩
  go_wp2_with fail
  refine (bleft_nil _).mono ?_
  rintro e w' ⟨rfl, rfl⟩
  go_wp2_with fail
  refine (bover_nil _).mono ?_
  rintro e w' ⟨rfl, rfl⟩
  go_wp2_with fail
  refine (bclone_nil _).mono ?_
  rintro e w' ⟨rfl, rfl⟩
  go_wp2_with fail
  refine (bchoose_nil _ false).mono ?_
  rintro e w' ⟨rfl, rfl⟩
  go_wp2_with fail
  refine (btrace_nil _).mono ?_
  rintro e w' ⟨rfl, rfl⟩
  go_wp2_with fail
  refine (bfast_nil _).mono ?_
  rintro e w' ⟨rfl, rfl⟩
  go_wp2_with fail
  refine (bram_nil _).mono ?_
  rintro e w' ⟨rfl, rfl⟩
  go_wp2_with fail
  refine (bstatus_nil _).mono ?_
  rintro e w9 ⟨rfl, b9⟩
  have BB := Lib.hid (T4.out.bw.trans (b9.mono T4.out.sz))
  clear b9 T4
  go_wp2_with fail
  go_ret
  exact ⟨rfl, BB.out⟩
end Go.Proofs.YtleofglnlfpoeaaGreat
namespace Go.Proofs.YtleofglnlfpoeaaGreat
open Go.RowKit
set_option linter.unusedVariables false
set_option linter.unusedSimpArgs false
set_option maxRecDepth 100000
theorem Hp.lim_mono {x : Hp} {n m : Nat} (h : x.lim n) (hm : n ≤ m) : x.lim m := ⟨Nat.le_trans h.1 hm, Nat.le_trans h.2.1 hm, Nat.le_trans h.2.2 hm⟩
theorem Hp.lim_rd {d : Hd} {x : Hp} {k r : Int} {n : Nat} (h : x.lim n) : (x.rd d k r).lim (n + 1) := by
  have h' : x.lim (n + 1) := Hp.lim_mono h (by omega)
  obtain ⟨h1, h2, h3⟩ := h
  obtain ⟨g1, g2, g3⟩ := h'
  unfold Hp.rd
  split
  · exact ⟨by show x.tv + 1 ≤ n + 1; omega, g2, g3⟩
  split
  · exact ⟨g1, by show x.tc + 1 ≤ n + 1; omega, g3⟩
  split
  · exact ⟨g1, g2, g3⟩
  split
  · refine ⟨g1, g2, ?_⟩
    show (if x.pt.takes then x.tp + 1 else x.tp) ≤ n + 1
    split <;> omega
  · exact ⟨g1, g2, g3⟩
theorem Hp.lim_wr {x : Hp} {k r u : Int} {n : Nat} (h : x.lim n) : (x.wr k r u).lim n := by
  unfold Hp.wr
  split
  · exact h
  split
  · exact h
  split
  · exact h
  split
  · exact h
  · exact h
/-- How far a bus has gone, at most, by so many accesses. -/
def Bs.room (s : Bs) (k : Nat) : Prop := s.now ≤ 24 * (k : Int) ∧ s.cyc ≤ 2 * (k : Int) ∧ s.x.lim k ∧ s.tl.length ≤ k
theorem room_new {rv : Value} {rn : Nat} {rz : Nat → Int} {b : Int} : (Bs.new rv rn rz Hp.new b).room 0 :=
  ⟨Int.le_refl 0, Int.le_refl 0, ⟨Nat.le_refl 0, Nat.le_refl 0, Nat.le_refl 0⟩, Nat.le_refl 0⟩
section
variable {s : Bs} {d : Hd} {a v kd : Int} {k : Nat}
theorem beg_room (h : s.room k) : (s.beg d a).now ≤ 24 * ((k + 1 : Nat) : Int) ∧ (s.beg d a).cyc ≤ 2 * ((k + 1 : Nat) : Int) ∧ (s.beg d a).x.lim k := by
  obtain ⟨h1, h2, h3, h4⟩ := h
  have l1 := lenI_bd s.fast (extraB a)
  have l2 := oneI_bd (extraB a)
  refine ⟨?_, ?_, Hp.lim_to h3⟩
  · show s.now + lenI s.fast (extraB a) ≤ _; omega
  · show s.cyc + (1 + oneI (extraB a)) ≤ _; omega
theorem anS_eq (s : Bs) (d : Hd) (a : Int) : (s.anS d a).now = s.now ∧ (s.anS d a).cyc = s.cyc ∧ (s.anS d a).fast = s.fast ∧ (s.anS d a).asked = s.asked ∧ (s.anS d a).next = s.next ∧ (s.anS d a).left = s.left ∧ (s.anS d a).f = s.f ∧ (s.anS d a).rn = s.rn ∧ (s.anS d a).rz = s.rz ∧ (s.anS d a).over = s.over := by
  unfold Bs.anS; split <;> exact ⟨rfl, rfl, rfl, rfl, rfl, rfl, rfl, rfl, rfl, rfl⟩
theorem chS_eq (s : Bs) (a v : Int) : (s.chS a v).now = s.now ∧ (s.chS a v).cyc = s.cyc ∧ (s.chS a v).fast = s.fast ∧ (s.chS a v).asked = s.asked ∧ (s.chS a v).next = s.next ∧ (s.chS a v).left = s.left ∧ (s.chS a v).rn = s.rn ∧ (s.chS a v).rz = s.rz ∧ (s.chS a v).over = s.over := by
  unfold Bs.chS; (repeat' split) <;> exact ⟨rfl, rfl, rfl, rfl, rfl, rfl, rfl, rfl, rfl⟩
theorem anS_lim (h : s.x.lim k) : (s.anS d a).x.lim (k + 1) := by
  unfold Bs.anS; split
  · exact Hp.lim_rd h
  · exact Hp.lim_mono h (by omega)
theorem chS_lim (h : s.x.lim k) : (s.chS a v).x.lim k := by
  unfold Bs.chS; split
  · exact Hp.lim_wr h
  split
  · exact h
  · exact h
theorem rdS_room (h : s.room k) : (s.rdS d a kd).room (k + 1) := by
  obtain ⟨b1, b2, b3⟩ := beg_room (d := d) (a := a) h
  obtain ⟨e1, e2, _⟩ := anS_eq (s.beg d a) d a
  refine ⟨?_, ?_, anS_lim b3, ?_⟩
  · show ((s.beg d a).anS d a).now ≤ _; rw [e1]; exact b1
  · show ((s.beg d a).anS d a).cyc ≤ _; rw [e2]; exact b2
  · show (s.tl ++ [_]).length ≤ _; rw [List.length_append]; have := h.2.2.2; simp; omega
theorem wrS_room (h : s.room k) : (s.wrS d a v kd).room (k + 1) := by
  obtain ⟨b1, b2, b3⟩ := beg_room (d := d) (a := a) h
  obtain ⟨e1, e2, _⟩ := chS_eq (s.beg d a) a v
  refine ⟨?_, ?_, Hp.lim_mono (chS_lim b3) (by omega), ?_⟩
  · show ((s.beg d a).chS a v).now ≤ _; rw [e1]; exact b1
  · show ((s.beg d a).chS a v).cyc ≤ _; rw [e2]; exact b2
  · show (s.tl ++ [_]).length ≤ _; rw [List.length_append]; have := h.2.2.2; simp; omega
theorem room_mono {m : Nat} (h : s.room k) (hm : k ≤ m) : s.room m := by
  obtain ⟨h1, h2, h3, h4⟩ := h
  exact ⟨by omega, by omega, Hp.lim_mono h3 hm, by omega⟩
end
theorem ram_where (a : Int) (a0 : 0 ≤ a) (h : whereI a = 1) : 2031616 ≤ a % 2097152 ∧ a % 2097152 < 2064384 := by
  have h1 := partAt_in (a % 2097152) (by omega) (by omega)
  have h2 : partAt (a % 2097152) = 2 := by
    have hl := partAt_lt (a % 2097152)
    unfold whereI at h
    rcases below11 _ hl with e | e | e | e | e | e | e | e | e | e | e <;> rw [e] at h ⊢ <;> simp [kindN] at h
  rw [h2] at h1
  exact h1
theorem ram_bank (a : Int) (a0 : 0 ≤ a) (h : whereI a = 1) : bankI a ≠ 255 := by
  have := ram_where a a0 h
  unfold bankI
  omega
end Go.Proofs.YtleofglnlfpoeaaGreat
namespace Go.Proofs.YtleofglnlfpoeaaGreat
open Go.RowKit
set_option linter.unusedVariables false
set_option linter.unusedSimpArgs false
set_option maxRecDepth 100000
theorem where_dev {a : Int} (a0 : 0 ≤ a) (e : bankI a = 255) : whereI a ≠ 1 := fun h => ram_bank a a0 h e
section
variable {W w : World} {g : Nat} {d : Hd} {Q : Rbp} {s : Bs} {nx : Bool}
set_option maxHeartbeats 8000000 in
theorem rbwrite_some {a : Int} (v kd : Int) (v0 : 0 ≤ v) (v1 : v ≤ 255) (h : RBU W w g d Q s nx) (C : HC W d Q.Z) (hok : s.x.ok d) (hok2 : (s.beg d a).x.ok d) (hG : Good d.n d.es) (hnn : d.np ≤ 140737488355328 ∧ d.nv ≤ 140737488355328 ∧ d.nc ≤ 140737488355328) (a0 : 0 ≤ a) (a1 : a ≤ 4294967295) (h0 : 0 < s.left) (hle : s.left ≤ 1099511627776) (o1 : 0 ≤ s.now) (o2 : 0 ≤ s.cyc) (hn : s.now ≤ 1000000000000) (hc : s.cyc ≤ 1000000000000) (hl : s.x.lim 1000000) (ht : s.tl.length ≤ 1000000) :
    Calls Tryz.prog 48 #[.pointer (some ⟨g, 0, none⟩), .int .u32 a, .int .u8 v, .int .u8 kd] w (RbR (.tuple #[]) W g d Q (s.wrS d a v kd) nx w) := by
  have b0 : 0 ≤ a % 2097152 := by omega
  have b1 : a % 2097152 ≤ 4294967295 := by omega
  have HL : Hid ((s.beg d a).x.lim 1000000) := Lib.hid (Hp.lim_to hl)
  have BG := Lib.hid (rbbegin_any h C hok hG (a % 2097152) b0 b1 h0 hle o1 o2 hn hc)
  have c4 := h.cells.2.2.2.2.1
  obtain ⟨l, hl'⟩ : ∃ l, s.left = l := ⟨_, rfl⟩
  rw [hl'] at c4 h0
  have hl0 : (l == 0) = false := by simpa using (show ¬ l = 0 by omega)
  have HC := Lib.hid C
  have HOK := Lib.hid hok2
  have HG := Lib.hid hG
  have HNN := Lib.hid hnn
  have HT : Hid (s.tl.length ≤ 1000000) := Lib.hid ht
  clear h C hok hok2 hG hnn hle o1 o2 hn hc hl ht hl' h0
  unfold Bs.wrS
  obtain ⟨o, ho⟩ : ∃ o, offI a = o := ⟨_, rfl⟩
  have ho2 : a % 2097152 % 8192 = o := by rw [← ho]; unfold offI; omega
  have o0 : 0 ≤ o := by omega
  have o9 : o < 8192 := by omega
  have o8 : o ≤ 65535 := by omega
  have HO := Lib.hid ho2
  by_cases e : bankI a = 255
  · have HE : Hid (bankI (a % 2097152) = 255) := Lib.hid (by rw [bank_mod]; exact e)
    obtain ⟨k, hk⟩ : ∃ k, whereI a = k := ⟨_, rfl⟩
    have HK : Hid (whereI (a % 2097152) = k) := Lib.hid (by rw [where_mod]; exact hk)
    have nk : (k == 1) = false := by simpa using (hk ▸ where_dev a0 e)
    have eb : (s.beg d a).chS a v = { s.beg d a with x := (s.beg d a).x.wr (whereI (plA o)) (regI (plA o)) v } := by unfold Bs.chS; rw [if_pos e, ho]
    rw [eb]
    clear eb e ho ho2 hk
    go_enter Tryz.func48, Tryz.ntmps48
    go_wp2_with fail
    refine BG.out.mono ?_
    rw [Bs.beg_mod]
    rintro e w1 ⟨t1, rfl, h1, k1, f1⟩
    have H1 := Lib.hid h1
    have K1 := Lib.hid k1
    have F9 := Lib.hid f1
    clear h1 k1 f1 c4 BG
    go_wp2_with fail
    refine (rwhere_v b0 b1 HK.out).mono ?_
    rintro e w2 ⟨rfl, b2⟩
    have H2 := Lib.hid (H1.out.keep b2)
    have K2 := Lib.hid (K1.out.trans (Kp.of_below (L := ([] : List Nat)) b2) (by simp))
    have c2 := H2.out.cells.2.2.1
    clear b2 H1 K1
    go_wp2_with fail
    refine (rbank_v b0 b1 HE.out).mono ?_
    rintro e w3 ⟨rfl, rfl⟩
    have ho := HO.out
    go_wp2_with fail
    clear ho
    refine (rhwrite_any H2.out.pg o v o0 o8 v0 v1).mono ?_
    rintro e w9 ⟨rfl, hp, k9⟩
    have H9 := Lib.hid (H2.out.page k9 hp)
    have K9 := Lib.hid (K2.out.trans k9 (fun y hy => .inl (mem_rbL.2 (.inr (.inr (.inr (.inl hy)))))))
    clear hp k9 H2 K2 c2
    have c6 : w9.cell? ⟨g, 6, none⟩ = some t1 := H9.out.cells.2.2.2.2.2.2
    have tr9 : w9.ownsRow 0 62 5 t1 s.tl.length (accL s.tl) := H9.out.tr
    obtain ⟨v', w5, hrun, own, gb, fr⟩ := more_acc (ty := 50) tr9 ⟨s.now, a % 2097152, kd, true, v⟩ HT.out
    obtain ⟨gt, ct, rfl⟩ := ownsRow_succ own
    obtain ⟨bt, hcz⟩ := H9.out.told ⟨s.now, a % 2097152, kd, true, v⟩ own gb fr
    have c6b : w5.cell? ⟨g, 6, none⟩ = some t1 := hcz.1
    have z6 := hcz.2
    have BT := Lib.hid (RbR.after K9.out F9.out (bt (.tuple #[])))
    clear own gb fr bt tr9 hcz
    go_wp2_with (at_builtin; refine wpList_append_run rfl (.tmp 50) (.tmp 56) 50 rfl rfl rfl hrun ?_)
    first | go_end0 | refine bodyPost_ret (results_none rfl _ _ _) rfl ?_
    exact BT.out
  · obtain ⟨bb, hbb⟩ : ∃ bb, bankI a = bb := ⟨_, rfl⟩
    have HE : Hid (bankI (a % 2097152) = bb) := Lib.hid (by rw [bank_mod]; exact hbb)
    obtain ⟨k, hk⟩ : ∃ k, whereI a = k := ⟨_, rfl⟩
    have HK : Hid (whereI (a % 2097152) = k) := Lib.hid (by rw [where_mod]; exact hk)
    have eb : (s.beg d a).chS a v = if k = 1 then { s.beg d a with f := fw (s.beg d a).f o v } else s.beg d a := by unfold Bs.chS; rw [if_neg e, hk, ho]
    rw [hbb] at e
    have n1 : (bb == 255) = false := by simpa using e
    rw [eb]
    clear eb e ho ho2 hk hbb
    by_cases k1 : k = 1
    · subst k1
      rw [if_pos rfl]
      go_enter Tryz.func48, Tryz.ntmps48
      go_wp2_with fail
      refine BG.out.mono ?_
      rw [Bs.beg_mod]
      rintro e w1 ⟨t1, rfl, h1, k1, f1⟩
      have H1 := Lib.hid h1
      have K1 := Lib.hid k1
      have F9 := Lib.hid f1
      clear h1 k1 f1 c4 BG
      go_wp2_with fail
      refine (rwhere_v b0 b1 HK.out).mono ?_
      rintro e w2 ⟨rfl, b2⟩
      have H2 := Lib.hid (H1.out.keep b2)
      have K2 := Lib.hid (K1.out.trans (Kp.of_below (L := ([] : List Nat)) b2) (by simp))
      have c1 := H2.out.cells.2.1
      clear b2 H1 K1
      obtain ⟨C, hC, hf⟩ := H2.out.ram
      obtain ⟨j, hj⟩ := Int.eq_ofNat_of_zero_le o0
      subst hj
      have hj2 : j < 8192 := by omega
      have cj : w2.cell? ⟨Q.m, j, none⟩ = some (.int .u8 ((s.beg d a).f j)) := by rw [hC.cell]; simpa using hf j hj2
      have zj := hC.frozen j
      have km : Kp [Q.m] w2 (w2.setCell ⟨Q.m, j, none⟩ (.int .u8 v)) := (Kp.refl _ _).setCell (p := ⟨Q.m, j, none⟩) (.inl (by simp)) _
      have hm : Blk (w2.setCell ⟨Q.m, j, none⟩ (.int .u8 v)) Q.m 5 (C.set ((j : Int) % 8192).toNat (.int .u8 v)).toArray := by
        have := hC.set_ j (.int .u8 v)
        rw [set_arr_] at this
        rw [show ((j : Int) % 8192).toNat = j by omega]; exact this
      have H3 := Lib.hid (H2.out.mem (f' := fw (s.beg d a).f j v) km hm (hf.wr j v (by omega) (by omega)))
      have K3 := Lib.hid (K2.out.trans km (fun y hy => .inl (mem_rbL.2 (.inr (.inl (by simpa using hy))))))
      have ho := HO.out
      clear hC hf km hm H2 K2
      go_wp2_with fail
      clear ho
      refine (rbank_v b0 b1 HE.out).mono ?_
      rintro e w3 ⟨rfl, rfl⟩
      generalize hw9 : World.setCell w2 ⟨Q.m, j, none⟩ _ = w9 at *
      have H9 := Lib.hid H3.out
      have K9 := Lib.hid K3.out
      clear H3 K3 c1 cj zj hw9
      have c6 : w9.cell? ⟨g, 6, none⟩ = some t1 := H9.out.cells.2.2.2.2.2.2
      have tr9 : w9.ownsRow 0 62 5 t1 s.tl.length (accL s.tl) := H9.out.tr
      obtain ⟨v', w5, hrun, own, gb, fr⟩ := more_acc (ty := 50) tr9 ⟨s.now, a % 2097152, kd, true, v⟩ HT.out
      obtain ⟨gt, ct, rfl⟩ := ownsRow_succ own
      obtain ⟨bt, hcz⟩ := H9.out.told ⟨s.now, a % 2097152, kd, true, v⟩ own gb fr
      have c6b : w5.cell? ⟨g, 6, none⟩ = some t1 := hcz.1
      have z6 := hcz.2
      have BT := Lib.hid (RbR.after K9.out F9.out (bt (.tuple #[])))
      clear own gb fr bt tr9 hcz
      go_wp2_with (at_builtin; refine wpList_append_run rfl (.tmp 50) (.tmp 56) 50 rfl rfl rfl hrun ?_)
      first | go_end0 | refine bodyPost_ret (results_none rfl _ _ _) rfl ?_
      exact BT.out
    · rw [if_neg k1]
      have nk : (k == 1) = false := by simpa using k1
      go_enter Tryz.func48, Tryz.ntmps48
      go_wp2_with fail
      refine BG.out.mono ?_
      rw [Bs.beg_mod]
      rintro e w1 ⟨t1, rfl, h1, k1, f1⟩
      have H1 := Lib.hid h1
      have K1 := Lib.hid k1
      have F9 := Lib.hid f1
      clear h1 k1 f1 c4 BG
      go_wp2_with fail
      refine (rwhere_v b0 b1 HK.out).mono ?_
      rintro e w9 ⟨rfl, b2⟩
      have H9 := Lib.hid (H1.out.keep b2)
      have K9 := Lib.hid (K1.out.trans (Kp.of_below (L := ([] : List Nat)) b2) (by simp))
      clear b2 H1 K1
      go_wp2_with fail
      refine (rbank_v b0 b1 HE.out).mono ?_
      rintro e w3 ⟨rfl, rfl⟩
      have c6 : w9.cell? ⟨g, 6, none⟩ = some t1 := H9.out.cells.2.2.2.2.2.2
      have tr9 : w9.ownsRow 0 62 5 t1 s.tl.length (accL s.tl) := H9.out.tr
      obtain ⟨v', w5, hrun, own, gb, fr⟩ := more_acc (ty := 50) tr9 ⟨s.now, a % 2097152, kd, true, v⟩ HT.out
      obtain ⟨gt, ct, rfl⟩ := ownsRow_succ own
      obtain ⟨bt, hcz⟩ := H9.out.told ⟨s.now, a % 2097152, kd, true, v⟩ own gb fr
      have c6b : w5.cell? ⟨g, 6, none⟩ = some t1 := hcz.1
      have z6 := hcz.2
      have BT := Lib.hid (RbR.after K9.out F9.out (bt (.tuple #[])))
      clear own gb fr bt tr9 hcz
      go_wp2_with (at_builtin; refine wpList_append_run rfl (.tmp 50) (.tmp 56) 50 rfl rfl rfl hrun ?_)
      first | go_end0 | refine bodyPost_ret (results_none rfl _ _ _) rfl ?_
      exact BT.out
theorem rbturn_any (h : RBU W w g d Q s nx) (ht : s.tidy) : Calls Tryz.prog 50 #[.pointer (some ⟨Q.c, 0, none⟩)] w (RbR (.tuple #[]) W g d Q s.tn nx w) := by
  refine (rturn_any h.ck).mono ?_
  rintro e w1 ⟨rfl, hb, gb⟩
  have k := Kp.of_gb gb
  refine RbR.mk0 (h.clk (s' := s.tn) (nx' := nx) k ?_ ?_ ?_) (k.mono (by simp [rbL]))
  · unfold Bs.tn
    by_cases ha : s.asked = true
    · rw [ha] at hb
      rw [if_pos ha, ← h.nx ha]
      exact hb
    · have ha' : s.asked = false := by simpa using ha
      rw [ha'] at hb
      rw [if_neg ha]
      rw [ha']
      exact hb
  · unfold Bs.tn; split <;> rfl
  · unfold Bs.tn
    split
    · intro h1; cases h1
    · exact h.nx
set_option maxHeartbeats 2000000 in
theorem rbentered_any (h : RBU W w g d Q s nx) (k : Int) (k0 : 0 ≤ k) (k1 : k ≤ 255) :
    Calls Tryz.prog 51 #[.pointer (some ⟨g, 0, none⟩), .int .u8 k] w fun e w' => ∃ nx', RbR (.tuple #[]) W g d Q (s.ent k) nx' w e w' := by
  have c2 := h.cells.2.2.1
  have H := Lib.hid h
  clear h
  go_enter Tryz.func51, Tryz.ntmps51
  go_wp2_with fail
  refine (rhentered_any H.out.pg k k0 k1).mono ?_
  rintro e w1 ⟨rfl, hp, k2⟩
  have H1 := Lib.hid (H.out.page k2 hp)
  have K1 : Hid (Kp (rbL g Q) w w1) := Lib.hid (k2.mono (fun y hy => mem_rbL.2 (.inr (.inr (.inr (.inl hy))))))
  have c3 := H1.out.cells.2.2.2.1
  clear hp k2 c2
  by_cases e : k = 1
  · have es : s.ent k = { s with x := s.x.en k, asked := true, next := false } := by unfold Bs.ent; rw [if_pos e]
    subst e
    have HES := Lib.hid es
    clear es
    go_wp2_with fail
    refine (rbask_any H1.out false).mono ?_
    rintro e w2 ⟨t, rfl, h2, k2, f2⟩
    have R : Hid (RbR (.tuple #[]) W g d Q { s with x := s.x.en 1, asked := true, next := false } false w (.returned (.tuple #[])) w2) := Lib.hid ⟨t, rfl, h2, K1.out.trans k2 (fun y hy => .inl hy), fun y hy => (f2 y hy).imp id (fun e => Nat.le_trans K1.out.size e)⟩
    clear h2 k2 f2
    go_wp2_with fail
    first | go_end0 | refine bodyPost_ret (results_none rfl _ _ _) rfl ?_
    exact ⟨false, by rw [HES.out]; exact R.out⟩
  · have es : s.ent k = { s with x := s.x.en k } := by unfold Bs.ent; rw [if_neg e]
    have HES := Lib.hid es
    have n1 : (k == 1) = false := by simpa using e
    clear es e c3
    go_wp2_with fail
    first | go_end0 | refine bodyPost_ret (results_none rfl _ _ _) rfl ?_
    exact ⟨nx, by rw [HES.out]; exact RbR.mk0 H1.out K1.out⟩
end
end Go.Proofs.YtleofglnlfpoeaaGreat
