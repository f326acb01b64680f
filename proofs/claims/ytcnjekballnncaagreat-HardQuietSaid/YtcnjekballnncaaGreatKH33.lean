/-
  Texts of these proofs, one behind the other: Hard9, Hard10.
-/
import Derived.Test.YtcnjekballnncaaGreatKH28
import Derived.Test.YtcnjekballnncaaGreatKH30
import Derived.Test.YtcnjekballnncaaGreatKH32
namespace Go.Proofs.YtcnjekballnncaaGreat
open Go.RowKit
set_option linter.unusedVariables false
set_option linter.unusedSimpArgs false
set_option maxRecDepth 100000
section
variable {w : World} {A1 A2 A3 A : Option Addr} {n1 c1 n2 c2 n3 c3 n c : Nat} {z1 z2 z3 : Nat → Int} {es : Nat → Iib}
set_option maxHeartbeats 4000000 in
theorem hnew_long (h1 : n1 ≤ 9223372036854775807) (h2 : n2 ≤ 9223372036854775807) (h3 : n3 ≤ 9223372036854775807) (hl : 10000 < n1 ∨ 10000 < n2 ∨ 10000 < n3) :
    Calls Tryz.prog 8 #[.agg #[.slice A1 n1 c1, .slice A2 n2 c2, .slice A3 n3 c3], .slice A n c] w (NewHN (2, 0) w) := by
  have hlb : longB n1 n2 n3 = true := decide_eq_true hl
  have hchk := fcheck_any (w := (w.alloc (.cells #[.slice A1 n1 c1, .slice A2 n2 c2, .slice A3 n3 c3] 24)).alloc (.cells #[.int .i64 0, .int .i64 0] 32)) A1 A2 A3 n1 n2 n3 c1 c2 c3 h1 h2 h3
  rw [hlb] at hchk
  have HCHK := Lib.hid hchk
  have hb1 : Below w.heap.size w ((w.alloc (.cells #[.slice A1 n1 c1, .slice A2 n2 c2, .slice A3 n3 c3] 24)).alloc (.cells #[.int .i64 0, .int .i64 0] 32)) := ((Below.refl _ _).alloc (Nat.le_refl _) _).alloc (by simp) _
  have G0 := Lib.hid (Blk.new (w.alloc (.cells #[.slice A1 n1 c1, .slice A2 n2 c2, .slice A3 n3 c3] 24)) 32 #[.int .i64 0, .int .i64 0])
  rw [World.size_alloc] at G0
  have HB := Lib.hid hb1
  clear hlb hchk hb1 hl h1 h2 h3
  go_enter Tryz.func8, Tryz.ntmps8
  go_wp2_with fail
  generalize World.alloc _ _ = w1 at *
  refine HCHK.out.mono ?_
  rintro e w2 ⟨rfl, b2⟩
  have s1 : w.heap.size + 1 < w1.heap.size := G0.out.lt
  have HB2 := Lib.hid (HB.out.trans (b2.mono (by omega)))
  have G2 := Lib.hid (G0.out.below b2 G0.out.lt)
  have e0 : w2.cell? ⟨w.heap.size + 1, 0, none⟩ = some (.int .i64 0) := G2.out.cell 0
  have e1 : w2.cell? ⟨w.heap.size + 1, 1, none⟩ = some (.int .i64 0) := G2.out.cell 1
  have f0 := G2.out.frozen 0
  have f1 := G2.out.frozen 1
  clear b2 HB G0 HCHK s1
  go_wp2_with fail
  have NB := (G2.out.set_ 0 (.int .i64 2)).set_ 1 (.int .i64 0)
  have B9 := Lib.hid ((HB2.out.setCell (p := ⟨w.heap.size + 1, 0, none⟩) (by simp) (.int .i64 2)).setCell (p := ⟨w.heap.size + 1, 1, none⟩) (by simp) (.int .i64 0))
  simp only [List.setIfInBounds_toArray, List.set_cons_zero, List.set_cons_succ] at NB
  clear e0 e1 f0 f1
  generalize World.setCell (World.setCell _ _ _) _ _ = wz at *
  have y0 : wz.cell? ⟨w.heap.size + 1, 0, none⟩ = some (.int .i64 2) := NB.cell 0
  have y1 : wz.cell? ⟨w.heap.size + 1, 1, none⟩ = some (.int .i64 0) := NB.cell 1
  clear NB
  refine bodyPost_ret (v := .tuple #[.pointer none, .agg #[.int .i64 2, .int .i64 0]]) (by simp [results, Tryz.results8, go_sem, y0, y1]) rfl ?_
  exact ⟨rfl, B9.out⟩
set_option maxHeartbeats 4000000 in
theorem hnew_bad (R : ERow w A n es) (hl : ¬ (10000 < n1 ∨ 10000 < n2 ∨ 10000 < n3)) (hc : n ≤ 9223372036854775807) (hk : (chk es n).1 ≠ 0) :
    Calls Tryz.prog 8 #[.agg #[.slice A1 n1 c1, .slice A2 n2 c2, .slice A3 n3 c3], .slice A n c] w (NewHN (chk es n) w) := by
  have hlb : longB n1 n2 n3 = false := decide_eq_false hl
  have hchk := fcheck_any (w := (w.alloc (.cells #[.slice A1 n1 c1, .slice A2 n2 c2, .slice A3 n3 c3] 24)).alloc (.cells #[.int .i64 0, .int .i64 0] 32)) A1 A2 A3 n1 n2 n3 c1 c2 c3 (by omega) (by omega) (by omega)
  rw [hlb] at hchk
  have HCHK := Lib.hid hchk
  have hb1 : Below w.heap.size w ((w.alloc (.cells #[.slice A1 n1 c1, .slice A2 n2 c2, .slice A3 n3 c3] 24)).alloc (.cells #[.int .i64 0, .int .i64 0] 32)) := ((Below.refl _ _).alloc (Nat.le_refl _) _).alloc (by simp) _
  have G0 := Lib.hid (Blk.new (w.alloc (.cells #[.slice A1 n1 c1, .slice A2 n2 c2, .slice A3 n3 c3] 24)) 32 #[.int .i64 0, .int .i64 0])
  rw [World.size_alloc] at G0
  have HB := Lib.hid hb1
  have HRE := Lib.hid R
  have hno := fun w (r : ERow w A n es) => lnew_no (c := c) r hc hk
  obtain ⟨⟨a, b⟩, hab⟩ : ∃ r, chk es n = r := ⟨_, rfl⟩
  rw [hab] at hk hno ⊢
  have hne : (a == 0) = false := by simpa using hk
  have HNO := Lib.hid hno
  clear hlb hchk hb1 hl R hno hk hab
  go_enter Tryz.func8, Tryz.ntmps8
  go_wp2_with fail
  generalize World.alloc _ _ = w1 at *
  refine HCHK.out.mono ?_
  rintro e w2 ⟨rfl, b2⟩
  have s1 : w.heap.size + 1 < w1.heap.size := G0.out.lt
  have HB2 := Lib.hid (HB.out.trans (b2.mono (by omega)))
  have G2 := Lib.hid (G0.out.below b2 G0.out.lt)
  clear b2 HB G0 HCHK s1
  go_wp2_with fail
  refine (HNO.out _ (FRow.keep HRE.out HB2.out)).mono ?_
  rintro e w3 ⟨rfl, b3⟩
  have s2 : w.heap.size + 1 < w2.heap.size := G2.out.lt
  have HB3 := Lib.hid (HB2.out.trans (b3.mono (by omega)))
  have G3 := Lib.hid (G2.out.below b3 G2.out.lt)
  clear b3 HB2 G2 s2
  go_wp2_with fail
  have s3 : w.heap.size + 1 < w3.heap.size := G3.out.lt
  have HB4 := Lib.hid (HB3.out.alloc (by omega) (.cells #[.int .i64 a, .int .i64 b] 32))
  have G4 := Lib.hid (G3.out.alloc (.cells #[.int .i64 a, .int .i64 b] 32))
  have n1 := Blk.new w3 32 #[.int .i64 a, .int .i64 b]
  have c30 : (w3.alloc (.cells #[.int .i64 a, .int .i64 b] 32)).cell? ⟨w3.heap.size, 0, none⟩ = some (.int .i64 a) := n1.cell 0
  have c31 : (w3.alloc (.cells #[.int .i64 a, .int .i64 b] 32)).cell? ⟨w3.heap.size, 1, none⟩ = some (.int .i64 b) := n1.cell 1
  have e0 : (w3.alloc (.cells #[.int .i64 a, .int .i64 b] 32)).cell? ⟨w.heap.size + 1, 0, none⟩ = some (.int .i64 0) := G4.out.cell 0
  have e1 : (w3.alloc (.cells #[.int .i64 a, .int .i64 b] 32)).cell? ⟨w.heap.size + 1, 1, none⟩ = some (.int .i64 0) := G4.out.cell 1
  have f0 := G4.out.frozen 0
  have f1 := G4.out.frozen 1
  clear n1 HB3 G3
  generalize World.alloc _ _ = w4 at *
  generalize w3.heap.size = g3 at *
  go_region
  all_goals
    go_wp2_with fail
    have NB := (G4.out.set_ 0 (.int .i64 a)).set_ 1 (.int .i64 b)
    have B9 := Lib.hid ((HB4.out.setCell (p := ⟨w.heap.size + 1, 0, none⟩) (by simp) (.int .i64 a)).setCell (p := ⟨w.heap.size + 1, 1, none⟩) (by simp) (.int .i64 b)).drew
    simp only [List.setIfInBounds_toArray, List.set_cons_zero, List.set_cons_succ] at NB
    have y0 : ((w4.setCell ⟨w.heap.size + 1, 0, none⟩ (.int .i64 a)).setCell ⟨w.heap.size + 1, 1, none⟩ (.int .i64 b)).drew.cell? ⟨w.heap.size + 1, 0, none⟩ = some (.int .i64 a) := NB.drew_.cell 0
    have y1 : ((w4.setCell ⟨w.heap.size + 1, 0, none⟩ (.int .i64 a)).setCell ⟨w.heap.size + 1, 1, none⟩ (.int .i64 b)).drew.cell? ⟨w.heap.size + 1, 1, none⟩ = some (.int .i64 b) := NB.drew_.cell 1
    show bodyPost Tryz.prog Tryz.f8 _ _ _ ((w4.setCell ⟨w.heap.size + 1, 0, none⟩ (.int .i64 a)).setCell ⟨w.heap.size + 1, 1, none⟩ (.int .i64 b)).drew
    clear e0 e1 f0 f1 NB
    generalize (World.setCell (World.setCell _ _ _) _ _).drew = wz at *
    refine bodyPost_ret (v := .tuple #[.pointer none, .agg #[.int .i64 a, .int .i64 b]]) (by simp [results, Tryz.results8, go_sem, y0, y1]) rfl ?_
    exact ⟨rfl, B9.out⟩
end
section
variable (w : World)
theorem hgo_nil (t : Int) : Calls Tryz.prog 16 #[.pointer none, .int .i64 t] w fun e w' => e = .returned (.tuple #[]) ∧ w = w' := by
  go_enter Tryz.func16, Tryz.ntmps16
  go_wp2
  first | go_end0 | refine bodyPost_ret (results_none rfl _ _ _) rfl ?_
  exact ⟨rfl, rfl⟩
theorem hnow_nil : Calls Tryz.prog 15 #[.pointer none] w fun e w' => e = .returned (.int .i64 0) ∧ w = w' := by
  go_enter Tryz.func15, Tryz.ntmps15
  go_wp2
  go_ret
  exact ⟨rfl, rfl⟩
theorem hread_nil (o : Int) : Calls Tryz.prog 20 #[.pointer none, .int .u16 o] w fun e w' => e = .returned (.int .u8 255) ∧ w = w' := by
  go_enter Tryz.func20, Tryz.ntmps20
  go_wp2
  go_ret
  exact ⟨rfl, rfl⟩
theorem hwrite_nil (o u : Int) : Calls Tryz.prog 19 #[.pointer none, .int .u16 o, .int .u8 u] w fun e w' => e = .returned (.tuple #[]) ∧ w = w' := by
  go_enter Tryz.func19, Tryz.ntmps19
  go_wp2
  first | go_end0 | refine bodyPost_ret (results_none rfl _ _ _) rfl ?_
  exact ⟨rfl, rfl⟩
theorem hchoose_nil (m : Bool) : Calls Tryz.prog 17 #[.pointer none, .bool m] w fun e w' => e = .returned (.int .u8 0) ∧ w = w' := by
  go_enter Tryz.func17, Tryz.ntmps17
  go_wp2
  go_ret
  exact ⟨rfl, rfl⟩
theorem hentered_nil (k : Int) : Calls Tryz.prog 21 #[.pointer none, .int .u8 k] w fun e w' => e = .returned (.tuple #[]) ∧ w = w' := by
  go_enter Tryz.func21, Tryz.ntmps21
  go_wp2
  first | go_end0 | refine bodyPost_ret (results_none rfl _ _ _) rfl ?_
  exact ⟨rfl, rfl⟩
theorem hstatus_nil : Calls Tryz.prog 13 #[.pointer none] w fun e w' => e = .returned (.agg #[.int .u8 0, .int .u8 0, .int .u8 0, .int .u8 0, .int .u8 0, .int .i64 0, .bool false, .bool false, .bool false, .int .i64 0, .int .i64 0, .int .i64 0]) ∧ Below w.heap.size w w' := by
  go_enter Tryz.func13, Tryz.ntmps13
  go_wp2_with fail
  have hb := Blk.new w 42 #[.int .u8 0, .int .u8 0, .int .u8 0, .int .u8 0, .int .u8 0, .int .i64 0, .bool false, .bool false, .bool false, .int .i64 0, .int .i64 0, .int .i64 0]
  have hB : Below w.heap.size w (w.alloc (.cells #[.int .u8 0, .int .u8 0, .int .u8 0, .int .u8 0, .int .u8 0, .int .i64 0, .bool false, .bool false, .bool false, .int .i64 0, .int .i64 0, .int .i64 0] 42)) := (Below.refl _ _).alloc (Nat.le_refl _) _
  have HBL := Lib.hid hb
  have HBB := Lib.hid hB
  clear hb hB
  generalize World.alloc _ _ = w1 at *
  have y0 : w1.cell? ⟨w.heap.size, 0, none⟩ = some (.int .u8 0) := HBL.out.cell 0
  have y1 : w1.cell? ⟨w.heap.size, 1, none⟩ = some (.int .u8 0) := HBL.out.cell 1
  have y2 : w1.cell? ⟨w.heap.size, 2, none⟩ = some (.int .u8 0) := HBL.out.cell 2
  have y3 : w1.cell? ⟨w.heap.size, 3, none⟩ = some (.int .u8 0) := HBL.out.cell 3
  have y4 : w1.cell? ⟨w.heap.size, 4, none⟩ = some (.int .u8 0) := HBL.out.cell 4
  have y5 : w1.cell? ⟨w.heap.size, 5, none⟩ = some (.int .i64 0) := HBL.out.cell 5
  have y6 : w1.cell? ⟨w.heap.size, 6, none⟩ = some (.bool false) := HBL.out.cell 6
  have y7 : w1.cell? ⟨w.heap.size, 7, none⟩ = some (.bool false) := HBL.out.cell 7
  have y8 : w1.cell? ⟨w.heap.size, 8, none⟩ = some (.bool false) := HBL.out.cell 8
  have y9 : w1.cell? ⟨w.heap.size, 9, none⟩ = some (.int .i64 0) := HBL.out.cell 9
  have y10 : w1.cell? ⟨w.heap.size, 10, none⟩ = some (.int .i64 0) := HBL.out.cell 10
  have y11 : w1.cell? ⟨w.heap.size, 11, none⟩ = some (.int .i64 0) := HBL.out.cell 11
  refine bodyPost_ret (v := .agg #[.int .u8 0, .int .u8 0, .int .u8 0, .int .u8 0, .int .u8 0, .int .i64 0, .bool false, .bool false, .bool false, .int .i64 0, .int .i64 0, .int .i64 0]) (by simp [results, Tryz.results13, go_sem, y0, y1, y2, y3, y4, y5, y6, y7, y8, y9, y10, y11]) rfl ?_
  exact ⟨rfl, HBB.out⟩
theorem hclone_nil : Calls Tryz.prog 11 #[.pointer none] w fun e w' => e = .returned (.pointer none) ∧ w = w' := by
  go_enter Tryz.func11, Tryz.ntmps11
  go_wp2
  go_ret
  exact ⟨rfl, rfl⟩
end
end Go.Proofs.YtcnjekballnncaaGreat
namespace Go.Proofs.YtcnjekballnncaaGreat
open Go.RowKit
set_option linter.unusedVariables false
set_option linter.unusedSimpArgs false
set_option maxRecDepth 100000
def es0 : Nat → Iib := fun _ => ⟨0, 0, false⟩
def d0 : Hd := ⟨0, es0, 0, fun _ => 0, 0, fun _ => 0, 0, fun _ => 0⟩
def mkX (tm : Tm) (q : Iq) (b n : Int) : Hp := ⟨tm, 0, false, b, q, ⟨0, 0⟩, 0, 0, 0, n⟩
theorem mk_new : Hp.new = mkX Tm.new ⟨0, false⟩ 0 0 := rfl
theorem mk_wr8 (tm : Tm) (q : Iq) (b n r u : Int) : (mkX tm q b n).wr 8 r u = mkX tm (q.wr r u) u n := rfl
theorem mk_wr6 (tm : Tm) (q : Iq) (b n r u : Int) : (mkX tm q b n).wr 6 r u = mkX (tm.wr r u) q u n := rfl
theorem mk_to (tm : Tm) (q : Iq) (b n t : Int) (h : n < t) : (mkX tm q b n).to d0 t = mkX (tm.goN (t - n).toNat) (if 0 < tm.overN (t - n).toNat then ⟨q.d, true⟩ else q) b t := by
  unfold Hp.to
  have hn : (mkX tm q b n).now = n := rfl
  rw [hn, if_neg (by omega)]
  have hp : pass d0.es d0.n t (mkX tm q b n).s = 0 := pass_stop (.inl (Nat.le_refl _))
  rw [hp]
  rfl
theorem mk_ch (tm : Tm) (q : Iq) (b n : Int) (m : Bool) : (mkX tm q b n).ch d0 m = chI q.d q.due false false false false m := rfl
theorem mk_lim (tm : Tm) (q : Iq) (b n : Int) (k : Nat) : (mkX tm q b n).lim k := ⟨Nat.zero_le _, Nat.zero_le _, Nat.zero_le _⟩
/-- A page that was made since. -/
def HT (B : Nat) (W : World) (g : Nat) (d : Hd) (b : Hb) (x : Hp) (w : World) : Prop := HP w g d b x ∧ Below B W w ∧ B ≤ w.heap.size ∧ (B ≤ g ∧ B ≤ b.v ∧ B ≤ b.c ∧ B ≤ b.p)
section
variable {B g : Nat} {W w w' : World} {d : Hd} {b : Hb} {x y : Hp}
theorem HT.on (h : HT B W g d b x w) (k : Below w.heap.size w w') : HT B W g d b x w' := ⟨h.1.keep k, h.2.1.trans (k.mono h.2.2.1), Nat.le_trans h.2.2.1 k.size, h.2.2.2⟩
theorem HT.go (h : HT B W g d b x w) {L : List Nat} (hL : ∀ z ∈ L, z ∈ [g, b.v, b.c, b.p]) (h1 : HP w' g d b y) (k : Kp L w w') : HT B W g d b y w' := by
  refine ⟨h1, k.onto h.2.1 h.2.2.1 (fun z hz => ?_), Nat.le_trans h.2.2.1 k.size, h.2.2.2⟩
  obtain ⟨a1, a2, a3, a4⟩ := h.2.2.2
  rcases (by simpa using hL z hz : z = g ∨ z = b.v ∨ z = b.c ∨ z = b.p) with rfl | rfl | rfl | rfl <;> assumption
end
section
variable {w : World} {g : Nat} {d : Hd} {b : Hb} {x y : Hp}
theorem hwrite_v (h : HP w g d b x) (hl : x.lim 1000000) {off u k r : Int} (o0 : 0 ≤ off) (o1 : off ≤ 65535) (u0 : 0 ≤ u) (u1 : u ≤ 255) (hk : whereI (plA off) = k) (hr : regI (plA off) = r) (e : x.wr k r u = y) :
    Calls Tryz.prog 19 #[.pointer (some ⟨g, 0, none⟩), .int .u16 off, .int .u8 u] w (HpR (.tuple #[]) g d b y [g, b.v, b.c, b.p] w) := by
  subst hk hr e
  exact hwrite_any h hl off u o0 o1 u0 u1
theorem hread_v (h : HP w g d b x) (hl : x.lim 1000000) {off k r v : Int} (o0 : 0 ≤ off) (o1 : off ≤ 65535) (hk : whereI (plA off) = k) (hr : regI (plA off) = r) (e1 : x.rv d k r = v) (e : x.rd d k r = y) :
    Calls Tryz.prog 20 #[.pointer (some ⟨g, 0, none⟩), .int .u16 off] w (HpR (.int .u8 v) g d b y [g, b.v, b.c, b.p] w) := by
  subst hk hr e e1
  exact hread_any h hl off o0 o1
theorem hgo_v (h : HP w g d b x) {t : Int} (ht : t ≤ 9223372036854775807) (e : x.to d t = y) :
    Calls Tryz.prog 16 #[.pointer (some ⟨g, 0, none⟩), .int .i64 t] w (HpR (.tuple #[]) g d b y [g] w) := e ▸ hgo_any h t ht
theorem hchoose_v (h : HP w g d b x) {m : Bool} {v : Int} (e : x.ch d m = v) :
    Calls Tryz.prog 17 #[.pointer (some ⟨g, 0, none⟩), .bool m] w fun e w' => e = .returned (.int .u8 v) ∧ Below w.heap.size w w' := e ▸ hchoose_any h m
end
theorem hnew_none (w : World) : Calls Tryz.prog 8 #[.agg #[.slice none 0 0, .slice none 0 0, .slice none 0 0], .slice none 0 0] w (NewHR d0 w) :=
  hnew_yes (fun _ => ⟨rfl, rfl⟩) (fun _ => ⟨rfl, rfl⟩) (fun _ => ⟨rfl, rfl⟩) (fun _ => ⟨rfl, rfl⟩) (fun i hi => absurd hi (by omega)) (fun i hi => absurd hi (by omega)) (fun i hi => absurd hi (by omega)) (fun i hi => absurd hi (by omega)) (by omega) (by omega) (by decide) ⟨by omega, fun j hj => absurd hj (by omega), fun j hj => absurd hj (by omega)⟩
theorem fieldDue (y : Hp) (W : World) : (Instr.field 42 (.agg (stC y)) 7).run Tryz.prog W = .ok (.bool y.q.due) W := by kernel_rfl
end Go.Proofs.YtcnjekballnncaaGreat
