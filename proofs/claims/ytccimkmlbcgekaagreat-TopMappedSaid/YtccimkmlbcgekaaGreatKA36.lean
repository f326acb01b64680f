/-
  Texts of these proofs, one behind the other: Bus9, Bus10, TMap.
-/
import Derived.Test.YtccimkmlbcgekaaGreatKA35
import Derived.Test.YtccimkmlbcgekaaGreatKA27
import Derived.Test.YtccimkmlbcgekaaGreatKA13
namespace Go.Proofs.YtccimkmlbcgekaaGreat
open Go.RowKit
set_option linter.unusedVariables false
set_option linter.unusedSimpArgs false
set_option maxRecDepth 100000
/-- A bus that was made since. -/
structure BT (B : Nat) (W w : World) (g : Nat) (d : Hd) (Q : Bp) (s : Bs) : Prop where
  u : BU w g d Q s
  bw : Below B W w
  sz : B ≤ w.heap.size
  lo : ∀ y ∈ bL g Q, B ≤ y
section
variable {B : Nat} {W w w' : World} {g : Nat} {d : Hd} {Q : Bp} {s s' : Bs}
theorem BT.go {v : Value} {e : Ending} (h : BT B W w g d Q s) (r : BuR v g d Q s' w e w') :
    ∃ Q', e = .returned v ∧ BT B W w' g d Q' s' ∧ Kp (bL g Q) w w' ∧ (∀ y ∈ bL g Q', y ∈ bL g Q ∨ w.heap.size ≤ y) ∧ Q'.p = Q.p ∧ Q'.b = Q.b ∧ Q'.m = Q.m := by
  obtain ⟨Q', e1, hb, k, fr, q⟩ := r
  refine ⟨Q', e1, ⟨hb, k.onto h.bw h.sz h.lo, Nat.le_trans h.sz k.size, fun y hy => ?_⟩, k, fr, q⟩
  rcases fr y hy with h1 | h1
  · exact h.lo y h1
  · exact Nat.le_trans h.sz h1
theorem BT.on (h : BT B W w g d Q s) (b : Below w.heap.size w w') : BT B W w' g d Q s := ⟨h.u.keep b, h.bw.trans (b.mono h.sz), Nat.le_trans h.sz b.size, h.lo⟩
theorem BT.kp0 (h : BT B W w g d Q s) (k : Kp [] w w') : BT B W w' g d Q s := ⟨h.u.kp0 k, k.onto h.bw h.sz (by simp), Nat.le_trans h.sz k.size, h.lo⟩
/-- A bus that is made on a page that was made since. -/
theorem BT.new {p : Nat} {b : Hb} {x : Hp} {rn : Nat} {rz : Nat → Int} {bu : Int} {e : Ending} (h1 : Below B W w) (h2 : B ≤ w.heap.size) (hp : B ≤ p ∧ B ≤ b.v ∧ B ≤ b.c ∧ B ≤ b.p) (r : BnR p d b x rn rz bu w e w') :
    ∃ g Q rv, e = .returned (.pointer (some ⟨g, 0, none⟩)) ∧ BT B W w' g d Q (Bs.new rv rn rz x bu) ∧ Below w.heap.size w w' ∧ w.heap.size ≤ g := by
  obtain ⟨g, m, rv, e1, hg, hm, hb, k⟩ := r
  refine ⟨g, _, rv, e1, ⟨hb, h1.trans (k.mono h2), Nat.le_trans h2 k.size, fun y hy => ?_⟩, k, hg⟩
  rcases mem_bL.1 hy with rfl | rfl | e | rfl | rfl | rfl | rfl | e
  · exact Nat.le_trans h2 hg
  · exact Nat.le_trans h2 hm
  · cases e
  · exact hp.1
  · exact hp.2.1
  · exact hp.2.2.1
  · exact hp.2.2.2
  · cases e
end
theorem bstatus_nil (w : World) : Calls Tryz.prog 38 #[.pointer none] w fun e w' => e = .returned (.agg #[.int .u8 0, .int .u8 0, .int .u8 0, .int .u8 0, .int .u8 0, .int .i64 0, .bool false, .bool false, .bool false, .int .i64 0, .int .i64 0, .int .i64 0]) ∧ Below w.heap.size w w' := by
  go_enter Tryz.func38, Tryz.ntmps38
  go_wp2_with fail
  have hb := Blk.new w 81 #[.int .u8 0, .int .u8 0, .int .u8 0, .int .u8 0, .int .u8 0, .int .i64 0, .bool false, .bool false, .bool false, .int .i64 0, .int .i64 0, .int .i64 0]
  have hB : Below w.heap.size w (w.alloc (.cells #[.int .u8 0, .int .u8 0, .int .u8 0, .int .u8 0, .int .u8 0, .int .i64 0, .bool false, .bool false, .bool false, .int .i64 0, .int .i64 0, .int .i64 0] 81)) := (Below.refl _ _).alloc (Nat.le_refl _) _
  have HBL := Lib.hid hb
  have HBB := Lib.hid hB
  clear hb hB
  generalize World.alloc _ _ = w1 at *
  have y0 : w1.cell? ⟨w.heap.size, 0, none⟩ = some (.int .u8 0) := HBL.out.cell 0
  have y1 : w1.cell? ⟨w.heap.size, 1, none⟩ = some (.int .u8 0) := HBL.out.cell 1
  have y2 : w1.cell? ⟨w.heap.size, 2, none⟩ = some (.int .u8 0) := HBL.out.cell 2
  have y3 : w1.cell? ⟨w.heap.size, 3, none⟩ = some (.int .u8 0) := HBL.out.cell 3
  have y4 : w1.cell? ⟨w.heap.size, 4, none⟩ = some (.int .u8 0) := HBL.out.cell 4
  have y5 : w1.cell? ⟨w.heap.size, 5, none⟩ = some (.int .i64 0) := HBL.out.cell 5
  have y6 : w1.cell? ⟨w.heap.size, 6, none⟩ = some (.bool false) := HBL.out.cell 6
  have y7 : w1.cell? ⟨w.heap.size, 7, none⟩ = some (.bool false) := HBL.out.cell 7
  have y8 : w1.cell? ⟨w.heap.size, 8, none⟩ = some (.bool false) := HBL.out.cell 8
  have y9 : w1.cell? ⟨w.heap.size, 9, none⟩ = some (.int .i64 0) := HBL.out.cell 9
  have y10 : w1.cell? ⟨w.heap.size, 10, none⟩ = some (.int .i64 0) := HBL.out.cell 10
  have y11 : w1.cell? ⟨w.heap.size, 11, none⟩ = some (.int .i64 0) := HBL.out.cell 11
  refine bodyPost_ret (v := .agg #[.int .u8 0, .int .u8 0, .int .u8 0, .int .u8 0, .int .u8 0, .int .i64 0, .bool false, .bool false, .bool false, .int .i64 0, .int .i64 0, .int .i64 0]) (by simp [results, Tryz.results38, go_sem, y0, y1, y2, y3, y4, y5, y6, y7, y8, y9, y10, y11]) rfl ?_
  exact ⟨rfl, HBB.out⟩
def dL : Hd := ⟨0, es0, 1, fun _ => 7, 0, fun _ => 0, 0, fun _ => 0⟩
def bS0 (rv : Value) : Bs := Bs.new rv 1 (fun _ => 234) Hp.new 2
def bS1 (rv : Value) : Bs := (bS0 rv).rdS dL 0 0
def bS2 (rv : Value) : Bs := (bS1 rv).rdS dL 2088960 3
theorem q19_v1 (rv : Value) : (bS0 rv).rdV dL 0 = 234 := by kernel_rfl
theorem q19_v2 (rv : Value) : (bS1 rv).rdV dL 2088960 = 7 := by kernel_rfl
theorem q19_l (rv : Value) : (bS0 rv).left = 2 ∧ (bS1 rv).left = 1 ∧ (bS2 rv).left = 0 := ⟨by kernel_rfl, by kernel_rfl, by kernel_rfl⟩
theorem q19_n (rv : Value) : (bS0 rv).now = 0 ∧ (bS1 rv).now = 12 ∧ (bS2 rv).now = 36 ∧ (bS0 rv).cyc = 0 ∧ (bS1 rv).cyc = 1 := ⟨by kernel_rfl, by kernel_rfl, by kernel_rfl, by kernel_rfl, by kernel_rfl⟩
theorem q19_t (rv : Value) : (bS2 rv).tl = [⟨0, 0, 0, false, 234⟩, ⟨12, 2088960, 3, false, 7⟩] := by kernel_rfl
theorem q19_x (rv : Value) : (bS0 rv).x.lim 1000000 ∧ (bS1 rv).x.lim 1000000 := ⟨⟨Nat.zero_le _, Nat.zero_le _, Nat.zero_le _⟩, ⟨Nat.zero_le _, Nat.zero_le _, Nat.zero_le _⟩⟩
theorem q19_tl (rv : Value) : (bS0 rv).tl.length ≤ 1000000 ∧ (bS1 rv).tl.length ≤ 1000000 := ⟨by show 0 ≤ 1000000; omega, by show 1 ≤ 1000000; omega⟩
theorem irow_one {w : World} {b : Nat} {x : Int} (h : Blk w b 5 #[.int .u8 x]) (hw : (Lit.int .u8 x).wf = true) : IRow w .u8 (some ⟨b, 0, none⟩) 1 (fun _ => x) := fun i hi => by
  obtain rfl : i = 0 := by omega
  exact ⟨_, rfl, h.lt, h.cell 0, hw⟩
set_option maxHeartbeats 16000000 in
theorem live19 (w : World) : Calls Tryz.prog 7 #[] w fun e w' => e = .returned (.bool true) ∧ Below w.heap.size w w' := by
  have hx1 : Blk (w.alloc (.cells #[.int .u8 7] 5)) w.heap.size 5 #[.int .u8 7] := Blk.new_ rfl
  have hb1 : Below w.heap.size w (w.alloc (.cells #[.int .u8 7] 5)) := (Below.refl _ _).alloc (Nat.le_refl _) _
  have hs1 : w.heap.size ≤ (w.alloc (.cells #[.int .u8 7] 5)).heap.size := hb1.size
  go_enter Tryz.func7, Tryz.ntmps7
  go_wp2_with fail
  obtain ⟨bb, hbb⟩ : ∃ b, w.heap.size = b := ⟨_, rfl⟩
  try rw [hbb]
  rw [hbb] at hx1
  generalize World.alloc w _ = w1 at *
  have HX1 := Lib.hid hx1
  have HB1 := Lib.hid hb1
  clear hx1 hb1
  refine (hnew_yes (z1 := fun _ => 7) (z2 := fun _ => 0) (z3 := fun _ => 0) (es := es0) (fun h => by cases h) (fun _ => ⟨rfl, rfl⟩) (fun _ => ⟨rfl, rfl⟩) (fun _ => ⟨rfl, rfl⟩) (irow_one HX1.out (by decide)) (fun i hi => absurd hi (by omega)) (fun i hi => absurd hi (by omega)) (fun i hi => absurd hi (by omega)) (by omega) (by omega) (by decide) ⟨by omega, fun j hj => absurd hj (by omega), fun j hj => absurd hj (by omega)⟩).mono ?_
  rintro e w2 ⟨p, b, rfl, hg2, hp2, b2⟩
  have HB2 := Lib.hid (HB1.out.trans (b2.mono HB1.out.size))
  have HP2 : Hid (HP w2 p dL b Hp.new) := Lib.hid hp2
  have hpl : w.heap.size ≤ p ∧ w.heap.size ≤ b.v ∧ w.heap.size ≤ b.c ∧ w.heap.size ≤ b.p := by omega
  clear hp2 b2 hg2 HX1 hs1
  go_upto_region 2 with fail
  have hb3 : Below w.heap.size w (w2.alloc (.cells #[.int .i64 0, .int .i64 0] 34)) := HB2.out.alloc HB2.out.size _
  have hp3 : HP (w2.alloc (.cells #[.int .i64 0, .int .i64 0] 34)) p dL b Hp.new := HP2.out.kp0 ((Kp.refl _ _).alloc _)
  generalize w2.heap.size = gf at *
  generalize World.alloc w2 _ = w3 at *
  have HB3 := Lib.hid hb3
  have HP3 := Lib.hid hp3
  clear hb3 hp3 HB1 HB2 HP2
  have hx4 : Blk (w3.alloc (.cells #[.int .u8 234] 5)) w3.heap.size 5 #[.int .u8 234] := Blk.new_ rfl
  have hb4 : Below w.heap.size w (w3.alloc (.cells #[.int .u8 234] 5)) := HB3.out.alloc HB3.out.size _
  have hp4 : HP (w3.alloc (.cells #[.int .u8 234] 5)) p dL b Hp.new := HP3.out.kp0 ((Kp.refl _ _).alloc _)
  have HX4 := Lib.hid hx4
  have HB4 := Lib.hid hb4
  have HP4 := Lib.hid hp4
  clear hx4 hb4 hp4
  go_wp2_with fail
  refine (bnew_any HP4.out (fun h => by cases h) (by omega) (irow_one HX4.out (by decide)) 2).mono ?_
  rintro e w5 r5
  obtain ⟨g, Q, rv, rfl, t5, -, -⟩ := BT.new HB4.out HB4.out.size hpl r5
  have T0 : Hid (BT w.heap.size w w5 g dL Q (bS0 rv)) := Lib.hid t5
  clear t5 r5 HX4 HB4 HP4 HB3 HP3 hpl
  go_wp2_with fail
  refine (bread_some T0.out.u 0 0 (by omega) (by omega) (by rw [(q19_l rv).1]; omega) (by rw [(q19_n rv).1]; omega) (by rw [(q19_n rv).2.2.2.1]; omega) (q19_x rv).1 (q19_tl rv).1).mono ?_
  rw [q19_v1 rv]
  rintro e x0 r
  obtain ⟨Q1, rfl, t, -⟩ := T0.out.go r
  have T1 : Hid (BT w.heap.size w x0 g dL Q1 (bS1 rv)) := Lib.hid t
  clear t r T0
  go_wp2_with fail
  refine (bread_some T1.out.u 2088960 3 (by omega) (by omega) (by rw [(q19_l rv).2.1]; omega) (by rw [(q19_n rv).2.1]; omega) (by rw [(q19_n rv).2.2.2.2]; omega) (q19_x rv).2 (q19_tl rv).2).mono ?_
  rw [q19_v2 rv]
  rintro e x1 r
  obtain ⟨Q2, rfl, t, -⟩ := T1.out.go r
  have T2 : Hid (BT w.heap.size w x1 g dL Q2 (bS2 rv)) := Lib.hid t
  clear t r T1
  go_wp2_with fail
  refine (bread_none T2.out.u 0 0 (q19_l rv).2.2).mono ?_
  rintro e x2 r
  obtain ⟨Q3, rfl, t, -⟩ := T2.out.go r
  have T3 := Lib.hid t
  clear t r T2
  go_wp2_with fail
  refine (btrace_any T3.out.u (by show (bS2 rv).tl.length ≤ 1000000; rw [q19_t]; decide)).mono ?_
  rintro e x3 ⟨A, cap, rfl, -, -, hf, -, -, b3⟩
  have hf : FRow x3 5 A 2 (accF [⟨0, 0, 0, false, 234⟩, ⟨12, 2088960, 3, false, 7⟩]) := by have := hf; rwa [show ({ bS2 rv with over := true } : Bs).tl = [⟨0, 0, 0, false, 234⟩, ⟨12, 2088960, 3, false, 7⟩] from q19_t rv] at this
  have elen : ({ bS2 rv with over := true } : Bs).tl.length = 2 := by show (bS2 rv).tl.length = 2; rw [q19_t]; rfl
  rw [elen]
  have T4 := Lib.hid (T3.out.on b3)
  clear b3 T3 elen
  obtain ⟨ad, rfl, hl, hc⟩ := hf 0 (by omega)
  obtain ⟨ad2, e2, -, hc2⟩ := hf 1 (by omega)
  obtain rfl := Option.some.inj e2
  have a0 : x3.cell? ad = some (.int .i64 0) := hc 0 (by omega)
  have b0 : x3.cell? ⟨ad.block, ad.off + 5, none⟩ = some (.int .i64 12) := hc2 0 (by omega)
  have a1 : x3.cell? ⟨ad.block, ad.off + 1, none⟩ = some (.int .u32 0) := hc 1 (by omega)
  have b1 : x3.cell? ⟨ad.block, ad.off + 5 + 1, none⟩ = some (.int .u32 2088960) := hc2 1 (by omega)
  have a2 : x3.cell? ⟨ad.block, ad.off + 2, none⟩ = some (.int .u8 0) := hc 2 (by omega)
  have b2 : x3.cell? ⟨ad.block, ad.off + 5 + 2, none⟩ = some (.int .u8 3) := hc2 2 (by omega)
  have a3 : x3.cell? ⟨ad.block, ad.off + 3, none⟩ = some (.bool false) := hc 3 (by omega)
  have b3 : x3.cell? ⟨ad.block, ad.off + 5 + 3, none⟩ = some (.bool false) := hc2 3 (by omega)
  have a4 : x3.cell? ⟨ad.block, ad.off + 4, none⟩ = some (.int .u8 234) := hc 4 (by omega)
  have b4 : x3.cell? ⟨ad.block, ad.off + 5 + 4, none⟩ = some (.int .u8 7) := hc2 4 (by omega)
  clear hf hc hc2 e2
  go_wp2_with fail
  refine (bwrite_nil _ 0 0 0).mono ?_
  rintro e w' ⟨rfl, rfl⟩
  go_wp2_with fail
  refine (bask_nil _ true).mono ?_
  rintro e w' ⟨rfl, rfl⟩
  go_wp2_with fail
  refine (bturn_nil _).mono ?_
  rintro e w' ⟨rfl, rfl⟩
  go_wp2_with fail
  refine (bentered_nil _ 1).mono ?_
  rintro e w' ⟨rfl, rfl⟩
  go_wp2_with fail
  clear a0 a1 a2 a3 a4 b0 b1 b2 b3 b4
  refine (bnow_any T4.out.u).mono ?_
  rw [show ({ bS2 rv with over := true } : Bs).now = 36 from (q19_n rv).2.2.1]
  rintro e w' ⟨rfl, rfl⟩
  go_wp2_with fail
  refine (bleft_any T4.out.u).mono ?_
  rw [show ({ bS2 rv with over := true } : Bs).left = 0 from (q19_l rv).2.2]
  rintro e w' ⟨rfl, rfl⟩
  go_wp2_with fail
  refine (bread_nil _ 0 0).mono ?_
  rintro e w' ⟨rfl, rfl⟩
  go_wp2_with fail
  refine (bpeek_nil _ 0).mono ?_
  rintro e w' ⟨rfl, rfl⟩
  go_wp2_with fail
  refine (bnow_nil _).mono ?_
  rintro e w' ⟨rfl, rfl⟩
  go_wp2_with fail
  refine (bleft_nil _).mono ?_
  rintro e w' ⟨rfl, rfl⟩
  go_wp2_with fail
  refine (bover_nil _).mono ?_
  rintro e w' ⟨rfl, rfl⟩
  go_wp2_with fail
  refine (bclone_nil _).mono ?_
  rintro e w' ⟨rfl, rfl⟩
  go_wp2_with fail
  refine (bchoose_nil _ false).mono ?_
  rintro e w' ⟨rfl, rfl⟩
  go_wp2_with fail
  refine (btrace_nil _).mono ?_
  rintro e w' ⟨rfl, rfl⟩
  go_wp2_with fail
  refine (bfast_nil _).mono ?_
  rintro e w' ⟨rfl, rfl⟩
  go_wp2_with fail
  refine (bram_nil _).mono ?_
  rintro e w' ⟨rfl, rfl⟩
  go_wp2_with fail
  refine (bstatus_nil _).mono ?_
  rintro e w9 ⟨rfl, b9⟩
  have BB := Lib.hid (T4.out.bw.trans (b9.mono T4.out.sz))
  clear b9 T4
  go_wp2_with fail
  go_ret
  exact ⟨rfl, BB.out⟩
end Go.Proofs.YtccimkmlbcgekaaGreat
namespace Go.Proofs.YtccimkmlbcgekaaGreat
open Go.RowKit
set_option linter.unusedVariables false
set_option linter.unusedSimpArgs false
set_option maxRecDepth 100000
theorem Hp.lim_mono {x : Hp} {n m : Nat} (h : x.lim n) (hm : n ≤ m) : x.lim m := ⟨Nat.le_trans h.1 hm, Nat.le_trans h.2.1 hm, Nat.le_trans h.2.2 hm⟩
theorem Hp.lim_rd {d : Hd} {x : Hp} {k r : Int} {n : Nat} (h : x.lim n) : (x.rd d k r).lim (n + 1) := by
  have h' : x.lim (n + 1) := Hp.lim_mono h (by omega)
  obtain ⟨h1, h2, h3⟩ := h
  obtain ⟨g1, g2, g3⟩ := h'
  unfold Hp.rd
  split
  · exact ⟨by show x.tv + 1 ≤ n + 1; omega, g2, g3⟩
  split
  · exact ⟨g1, by show x.tc + 1 ≤ n + 1; omega, g3⟩
  split
  · exact ⟨g1, g2, g3⟩
  split
  · refine ⟨g1, g2, ?_⟩
    show (if x.pt.takes then x.tp + 1 else x.tp) ≤ n + 1
    split <;> omega
  · exact ⟨g1, g2, g3⟩
theorem Hp.lim_wr {x : Hp} {k r u : Int} {n : Nat} (h : x.lim n) : (x.wr k r u).lim n := by
  unfold Hp.wr
  split
  · exact h
  split
  · exact h
  split
  · exact h
  split
  · exact h
  · exact h
/-- How far a bus has gone, at most, by so many accesses. -/
def Bs.room (s : Bs) (k : Nat) : Prop := s.now ≤ 24 * (k : Int) ∧ s.cyc ≤ 2 * (k : Int) ∧ s.x.lim k ∧ s.tl.length ≤ k
theorem room_new {rv : Value} {rn : Nat} {rz : Nat → Int} {b : Int} : (Bs.new rv rn rz Hp.new b).room 0 :=
  ⟨Int.le_refl 0, Int.le_refl 0, ⟨Nat.le_refl 0, Nat.le_refl 0, Nat.le_refl 0⟩, Nat.le_refl 0⟩
section
variable {s : Bs} {d : Hd} {a v kd : Int} {k : Nat}
theorem beg_room (h : s.room k) : (s.beg d a).now ≤ 24 * ((k + 1 : Nat) : Int) ∧ (s.beg d a).cyc ≤ 2 * ((k + 1 : Nat) : Int) ∧ (s.beg d a).x.lim k := by
  obtain ⟨h1, h2, h3, h4⟩ := h
  have l1 := lenI_bd s.fast (extraB a)
  have l2 := oneI_bd (extraB a)
  refine ⟨?_, ?_, Hp.lim_to h3⟩
  · show s.now + lenI s.fast (extraB a) ≤ _; omega
  · show s.cyc + (1 + oneI (extraB a)) ≤ _; omega
theorem anS_eq (s : Bs) (d : Hd) (a : Int) : (s.anS d a).now = s.now ∧ (s.anS d a).cyc = s.cyc ∧ (s.anS d a).fast = s.fast ∧ (s.anS d a).asked = s.asked ∧ (s.anS d a).next = s.next ∧ (s.anS d a).left = s.left ∧ (s.anS d a).f = s.f ∧ (s.anS d a).rn = s.rn ∧ (s.anS d a).rz = s.rz ∧ (s.anS d a).over = s.over := by
  unfold Bs.anS; split <;> exact ⟨rfl, rfl, rfl, rfl, rfl, rfl, rfl, rfl, rfl, rfl⟩
theorem chS_eq (s : Bs) (a v : Int) : (s.chS a v).now = s.now ∧ (s.chS a v).cyc = s.cyc ∧ (s.chS a v).fast = s.fast ∧ (s.chS a v).asked = s.asked ∧ (s.chS a v).next = s.next ∧ (s.chS a v).left = s.left ∧ (s.chS a v).rn = s.rn ∧ (s.chS a v).rz = s.rz ∧ (s.chS a v).over = s.over := by
  unfold Bs.chS; (repeat' split) <;> exact ⟨rfl, rfl, rfl, rfl, rfl, rfl, rfl, rfl, rfl⟩
theorem anS_lim (h : s.x.lim k) : (s.anS d a).x.lim (k + 1) := by
  unfold Bs.anS; split
  · exact Hp.lim_rd h
  · exact Hp.lim_mono h (by omega)
theorem chS_lim (h : s.x.lim k) : (s.chS a v).x.lim k := by
  unfold Bs.chS; split
  · exact Hp.lim_wr h
  split
  · exact h
  · exact h
theorem rdS_room (h : s.room k) : (s.rdS d a kd).room (k + 1) := by
  obtain ⟨b1, b2, b3⟩ := beg_room (d := d) (a := a) h
  obtain ⟨e1, e2, _⟩ := anS_eq (s.beg d a) d a
  refine ⟨?_, ?_, anS_lim b3, ?_⟩
  · show ((s.beg d a).anS d a).now ≤ _; rw [e1]; exact b1
  · show ((s.beg d a).anS d a).cyc ≤ _; rw [e2]; exact b2
  · show (s.tl ++ [_]).length ≤ _; rw [List.length_append]; have := h.2.2.2; simp; omega
theorem wrS_room (h : s.room k) : (s.wrS d a v kd).room (k + 1) := by
  obtain ⟨b1, b2, b3⟩ := beg_room (d := d) (a := a) h
  obtain ⟨e1, e2, _⟩ := chS_eq (s.beg d a) a v
  refine ⟨?_, ?_, Hp.lim_mono (chS_lim b3) (by omega), ?_⟩
  · show ((s.beg d a).chS a v).now ≤ _; rw [e1]; exact b1
  · show ((s.beg d a).chS a v).cyc ≤ _; rw [e2]; exact b2
  · show (s.tl ++ [_]).length ≤ _; rw [List.length_append]; have := h.2.2.2; simp; omega
theorem room_mono {m : Nat} (h : s.room k) (hm : k ≤ m) : s.room m := by
  obtain ⟨h1, h2, h3, h4⟩ := h
  exact ⟨by omega, by omega, Hp.lim_mono h3 hm, by omega⟩
theorem rdS_f : (s.rdS d a kd).f = s.f ∧ (s.rdS d a kd).left = s.left - 1 := by
  obtain ⟨_, _, _, _, _, e6, e7, _⟩ := anS_eq (s.beg d a) d a
  exact ⟨e7, e6⟩
theorem wrS_left : (s.wrS d a v kd).left = s.left - 1 := (chS_eq (s.beg d a) a v).2.2.2.2.2.1
theorem wrS_f_yes (hb : bankI a ≠ 255) (hw : whereI a = 1) : (s.wrS d a v kd).f = fw s.f (offI a) v := by
  show ((s.beg d a).chS a v).f = _
  unfold Bs.chS
  rw [if_neg hb, if_pos hw]
  rfl
theorem wrS_pk_no (x : Int) (hw : whereI a ≠ 1) : (s.wrS d a v kd).pk x = s.pk x := by
  have e : (s.wrS d a v kd).f = s.f ∧ (s.wrS d a v kd).rn = s.rn ∧ (s.wrS d a v kd).rz = s.rz := by
    show ((s.beg d a).chS a v).f = _ ∧ ((s.beg d a).chS a v).rn = _ ∧ ((s.beg d a).chS a v).rz = _
    unfold Bs.chS
    split
    · exact ⟨rfl, rfl, rfl⟩
    first | exact ⟨rfl, rfl, rfl⟩ | (rw [if_neg hw]; exact ⟨rfl, rfl, rfl⟩)
  unfold Bs.pk
  rw [e.1, e.2.1, e.2.2]
theorem rdV_ram (hb : bankI a ≠ 255) (hw : whereI a = 1) : s.rdV d a = s.f (a % 8192).toNat := by
  show (s.beg d a).an d a = _
  unfold Bs.an
  rw [if_neg hb]
  unfold Bs.pk
  rw [hw]
  rfl
end
theorem where_ramB (a : Int) (h0 : 2031616 ≤ a % 2097152) (h1 : a % 2097152 < 2064384) : whereI a = 1 := by
  unfold whereI
  rw [show partAt (a % 2097152) = 2 by unfold partAt; rw [if_neg (by omega), if_neg (by omega), if_pos h1]]
  rfl
theorem ram_where (a : Int) (a0 : 0 ≤ a) (h : whereI a = 1) : 2031616 ≤ a % 2097152 ∧ a % 2097152 < 2064384 := by
  have h1 := partAt_in (a % 2097152) (by omega) (by omega)
  have h2 : partAt (a % 2097152) = 2 := by
    have hl := partAt_lt (a % 2097152)
    unfold whereI at h
    rcases below11 _ hl with e | e | e | e | e | e | e | e | e | e | e <;> rw [e] at h ⊢ <;> simp [kindN] at h
  rw [h2] at h1
  exact h1
theorem ram_bank (a : Int) (a0 : 0 ≤ a) (h : whereI a = 1) : bankI a ≠ 255 := by
  have := ram_where a a0 h
  unfold bankI
  omega
end Go.Proofs.YtccimkmlbcgekaaGreat
namespace Go.Proofs.YtccimkmlbcgekaaGreat
open Go.RowKit
set_option linter.unusedVariables false
set_option linter.unusedSimpArgs false
set_option maxRecDepth 100000
theorem one_page : ∀ x0 : Fin 8, List.countP (fun x : Fin 8 => x == x0) [0, 1, 2, 3, 4, 5, 6, 7] = 1 := by decide
theorem seen_once (z : Nat → Int) (a : Int) (a0 : 0 ≤ a) (a1 : a ≤ 65535) (hz : ∀ i, i < 8 → 0 ≤ z i ∧ z i ≤ 255) : (seN z (phI z a)).countP (fun y => y == a) = 1 := by
  obtain ⟨q, hq⟩ : ∃ q, a.toNat / 8192 = q := ⟨_, rfl⟩
  have hq8 : q < 8 := by omega
  obtain ⟨z0, z1⟩ := hz q hq8
  have hp : phI z a = z q * 8192 + a % 8192 := by unfold phI; rw [hq]
  have hb : bankI (phI z a) = z q := by rw [hp]; unfold bankI; omega
  have ho : offI (phI z a) = a % 8192 := by rw [hp]; unfold offI; omega
  unfold seN
  rw [hb, ho, List.countP_map, List.countP_filter, ← one_page ⟨q, hq8⟩]
  apply List.countP_congr
  intro x _
  simp only [Function.comp_apply, Bool.and_eq_true, beq_iff_eq]
  constructor
  · rintro ⟨h1, h2⟩
    have := x.isLt
    exact Fin.ext (by show x.val = q; omega)
  · rintro rfl
    refine ⟨?_, rfl⟩
    show ((q : Nat) : Int) * 8192 + a % 8192 = a
    omega
/-- How many of the first so many are a. -/
def cntA (l : List Int) (a : Int) (k : Nat) : Nat := (l.take k).countP (fun y => y == a)
theorem cntA_zero (l : List Int) (a : Int) : cntA l a 0 = 0 := rfl
theorem cntA_succ (l : List Int) (a : Int) (k : Nat) (h : k < l.length) : cntA l a (k + 1) = cntA l a k + if l.getD k 0 == a then 1 else 0 := by
  unfold cntA
  rw [List.take_add_one, List.countP_append, List.getElem?_eq_getElem h, List.getD_eq_getElem?_getD, List.getElem?_eq_getElem h]
  simp only [Option.toList_some, Option.getD_some, List.countP_cons, List.countP_nil, Nat.zero_add]
theorem cntA_all (l : List Int) (a : Int) (k : Nat) (h : l.length ≤ k) : cntA l a k = l.countP (fun y => y == a) := by
  unfold cntA
  rw [List.take_of_length_le h]
theorem cntA_le (l : List Int) (a : Int) (k : Nat) : cntA l a k ≤ k := Nat.le_trans List.countP_le_length (by rw [List.length_take]; omega)
theorem phI_bd (z : Nat → Int) (a : Int) (a0 : 0 ≤ a) (a1 : a ≤ 65535) (hz : ∀ i, i < 8 → 0 ≤ z i ∧ z i ≤ 255) : 0 ≤ phI z a ∧ phI z a < 2097152 := by
  obtain ⟨q, hq⟩ : ∃ q, a.toNat / 8192 = q := ⟨_, rfl⟩
  have hq8 : q < 8 := by omega
  obtain ⟨z0, z1⟩ := hz q hq8
  unfold phI
  rw [hq]; omega
theorem runs_zeros (n : Nat) : runs (fun _ => 0) n = [] := by
  induction n with
  | zero => rfl
  | succ n ih => unfold runs; rw [ih]; rfl
end Go.Proofs.YtccimkmlbcgekaaGreat
