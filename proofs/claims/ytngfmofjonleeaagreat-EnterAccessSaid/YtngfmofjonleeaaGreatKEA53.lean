/-
  Texts of these proofs, one behind the other: Ent20, Ent21.
-/
import Derived.Test.YtngfmofjonleeaaGreatKEA50
import Derived.Test.YtngfmofjonleeaaGreatKEA52
import Derived.Test.YtngfmofjonleeaaGreatKEA22
import Derived.Test.YtngfmofjonleeaaGreatKEA32
import Derived.Test.YtngfmofjonleeaaGreatKEA33
import Derived.Test.YtngfmofjonleeaaGreatKEA12
namespace Go.Proofs.YtngfmofjonleeaaGreat
open Go.RowKit
set_option linter.unusedVariables false
set_option linter.unusedSimpArgs false
set_option maxRecDepth 100000
def stW (t : TypeId) : Prop := t = 25 ∨ t = 25
theorem RHp.offS {w : World} {r : Nat} {d : Hd} {J : Rr} {Z : Rz} {x : Hp} (h : RHp w r d J Z x) {u : Nat} {T : TypeId} {cs : Array Value} (hb : Blk w u T cs) (hT : stW T) : u ∉ J.all r := by
  intro hy
  simp only [Rr.all, List.mem_cons, List.not_mem_nil, or_false] at hy
  rcases hT with rfl | rfl
  all_goals
    rcases hy with rfl | rfl | rfl | rfl | rfl | rfl | rfl
    · exact hb.ne_ h.pg (by decide) rfl
    · exact hb.ne_ h.tm.1 (by decide) rfl
    · exact hb.ne_ h.q.1 (by decide) rfl
    · exact hb.ne_ h.pt.1 (by decide) rfl
    · exact hb.ne_ h.v (by decide) rfl
    · exact hb.ne_ h.c (by decide) rfl
    · exact hb.ne_ h.l (by decide) rfl
section
variable {W w w1 w2 w3 w' : World} {g r : Nat} {d : Hd} {P P' : Bp} {Q : Rbp} {s s' : Bs} {nx nx' : Bool} {t : Value}
theorem RBU.offS (h : RBU W w r d Q s nx) {u : Nat} {T : TypeId} {cs : Array Value} (hb : Blk w u T cs) (hT : stW T) : u ∉ rbL r Q := by
  intro hy
  obtain ⟨C, hC, _⟩ := h.ram
  rcases mem_rbL.1 hy with rfl | rfl | rfl | e | e
  · rcases hT with rfl | rfl <;> exact hb.ne_ h.blk (by decide) rfl
  · rcases hT with rfl | rfl <;> exact hb.ne_ hC (by decide) rfl
  · rcases hT with rfl | rfl <;> exact hb.ne_ h.ck (by decide) rfl
  · exact h.pg.offS hb hT e
  · obtain ⟨cs', hc⟩ := h.typed.2 u e
    rcases hT with rfl | rfl <;> exact hb.ne_ hc (by decide) rfl
theorem BU.offS (h : BU w g d P s) {u : Nat} {T : TypeId} {cs : Array Value} (hb : Blk w u T cs) (hT : stW T) : u ∉ bL g P := by
  rcases hT with rfl | rfl <;> exact h.off hb (by decide) (by decide) (by decide) (by decide) (by decide)
/-- Both did the same, something else being done between. -/
theorem BX.three (h : BX W w g d P r Q s nx) (k1 : Kp (bL g P) w w1) (f1 : ∀ y ∈ bL g P', y ∈ bL g P ∨ w.heap.size ≤ y) (q1 : P'.b = P.b) (hs : w1.heap.size ≤ w3.heap.size) (b3 : BU w3 g d P' s') (l3 : ∀ y ∈ bL g P', y < w1.heap.size) (r3 : RBU W w3 r d Q s nx)
    (h2 : RBU W w2 r d { Q with tr := t } s' nx') (k2 : Kp (rbL r Q) w3 w2) (f2 : ∀ y ∈ rbL r { Q with tr := t }, y ∈ rbL r Q ∨ w3.heap.size ≤ y) : BX W w2 g d P' r { Q with tr := t } s' nx' := by
  have hlt := h.rb.lt
  have ap1 : ∀ y ∈ bL g P', y ∉ rbL r Q := fun y hy hy2 => by
    rcases f1 y hy with e | e
    · exact h.ap y e hy2
    · have := hlt y hy2; omega
  have yo1 : ∀ u ∈ [g, P'.b.v, P'.b.c, P'.b.p], u ≤ Q.m := by rw [q1]; exact h.yo
  refine ⟨b3.kpx k2 (r3.nbx yo1) ap1, h2, fun y hy hy2 => ?_, yo1, fun y hy => ?_, fun ad e hy => ?_⟩
  · rcases f2 y hy2 with e | e
    · exact ap1 y hy e
    · have := l3 y hy; omega
  · rcases f1 y hy with e | e
    · exact h.lo y e
    · exact Nat.le_trans h.rb.old.size e
  · have a1 := h.rb.ralt ad e
    rcases f1 _ hy with e2 | e2
    · exact h.ar ad e e2
    · omega
end
end Go.Proofs.YtngfmofjonleeaaGreat
namespace Go.Proofs.YtngfmofjonleeaaGreat
open Go.RowKit Go.Shelf
set_option linter.unusedVariables false
set_option linter.unusedSimpArgs false
def z123 : Nat → Int := fun i => if i = 0 then 1 else if i = 1 then 2 else 3
theorem irow_123 {w : World} {g : Nat} (h : Blk w g 5 #[.int .u8 1, .int .u8 2, .int .u8 3]) : IRow w .u8 (some ⟨g, 0, none⟩) 3 z123 := fun i hi => by
  refine ⟨_, rfl, h.lt, ?_, ?_⟩
  · rw [add_zero_block, h.cell]
    rcases (by omega : i = 0 ∨ i = 1 ∨ i = 2) with rfl | rfl | rfl <;> rfl
  · rcases (by omega : i = 0 ∨ i = 1 ∨ i = 2) with rfl | rfl | rfl <;> decide
attribute [local go_sem] Oper.semAt_some
set_option maxRecDepth 100000 in
set_option maxHeartbeats 64000000 in
theorem enteraccess_walk {W : World} (rS : Nat → Int) (hr : StOk rS) (A : Option Addr) (n c : Nat) (sp : Nat → Sp) (hnc : n ≤ c) (hm : c ≤ maxLen) (HSP : ∀ i, i < n → (sp i).ok) (RQ : FRow W 4 A n (fun i j => (spC (sp i)).getD j (.bool false))) :
    Calls Tryz.prog 3 #[.agg (stA rS), .slice A n c] W fun e w' => e = .returned (.bool true) ∧ Below W.heap.size W w' := by
  unfold maxLen at hm
  have HRQ := Lib.hid RQ
  have HOK := Lib.hid HSP
  have HRO := Lib.hid hr
  have h8 : ∀ r, (Tryz.prog.info? 25).map (·.size) = some (stA r).size := fun r => by rw [stA_size]; exact size_state
  have H8 := Lib.hid h8
  clear RQ HSP hr h8
  go_enter Tryz.func3, Tryz.ntmps3
  go_upto_region 1 with fail
  have SB := Lib.hid (Blk.new W 25 (stA rS))
  have HB := Lib.hid ((Below.refl W.heap.size W).alloc (Nat.le_refl _) (.cells (stA rS) 25))
  obtain ⟨w0, hw0⟩ : ∃ w0, W.alloc (.cells (stA rS) 25) = w0 := ⟨_, rfl⟩
  rw [hw0] at SB HB
  have HW0 := Lib.hid hw0
  clear hw0
  rw [HW0.out]
  go_wp2_with fail
  refine (live27_any _).mono ?_
  rintro e w1 ⟨rfl, b1⟩
  replace HB := Lib.hid (HB.out.trans (b1.mono HB.out.size))
  replace SB := Lib.hid (SB.out.below b1 SB.out.lt)
  clear b1 HW0
  go_upto_region 3 with fail
  by_cases hlong : (60 : Int) < n
  · have d1 : decide ((60 : Int) < (n : Int)) = true := decide_eq_true hlong
    go_wp2_with fail
    go_ret
    exact ⟨rfl, HB.out⟩
  have d1 : decide ((60 : Int) < (n : Int)) = false := decide_eq_false hlong
  obtain ⟨gq1, gq2, _⟩ := chk_zero (es := fun _ => ⟨0, 0, false⟩) (n := 0) rfl
  have HK : Hid ((chk (fun _ => ⟨0, 0, false⟩) 0).1 = 0) := Lib.hid rfl
  have GD : Hid (Good 0 (fun _ => ⟨0, 0, false⟩)) := Lib.hid ⟨gq1, gq2, fun j hj => absurd hj (by omega)⟩
  clear gq1 gq2
  go_upto_region 5 with fail
  go_wp2_with fail
  refine (hnew_yes (A1 := none) (A2 := none) (A3 := none) (z1 := fun _ => 0) (z2 := fun _ => 0) (z3 := fun _ => 0) (es := fun _ => ⟨0, 0, false⟩) (fun _ => ⟨rfl, rfl⟩) (fun _ => ⟨rfl, rfl⟩) (fun _ => ⟨rfl, rfl⟩) (fun _ => ⟨rfl, rfl⟩) (fun i hi => absurd hi (by omega)) (fun i hi => absurd hi (by omega)) (fun i hi => absurd hi (by omega)) (fun i hi => absurd hi (by omega)) (by omega) (by omega) HK.out GD.out).mono ?_
  rintro e w2 ⟨g, b, rfl, hg, h2, b2⟩
  have hsz := HB.out.size
  replace HB := Lib.hid (HB.out.trans (b2.mono hsz))
  replace SB := Lib.hid (SB.out.below b2 SB.out.lt)
  have H2 := Lib.hid h2
  have HGL : Hid (∀ y ∈ [g, b.v, b.c, b.p], W.heap.size ≤ y) := Lib.hid fun y hy => by
    simp only [List.mem_cons, List.not_mem_nil, or_false] at hy
    rcases hy with rfl | rfl | rfl | rfl <;> omega
  clear b2 hsz h2 hg
  go_upto_region 6 with fail
  replace H2 := Lib.hid (H2.out.keep ((Below.refl w2.heap.size w2).alloc (Nat.le_refl _) (.cells #[.int .i64 0, .int .i64 0] 31)))
  have hsz := HB.out.size
  replace HB := Lib.hid (HB.out.alloc hsz (.cells #[.int .i64 0, .int .i64 0] 31))
  replace SB := Lib.hid (SB.out.alloc (.cells #[.int .i64 0, .int .i64 0] 31))
  clear hsz
  generalize w2.heap.size = gX1 at *
  generalize World.alloc w2 _ = w3 at *
  go_wp2_with fail
  refine (rhnew_yes (A1 := none) (A2 := none) (A3 := none) (c1 := 0) (c2 := 0) (c3 := 0) (z1 := fun _ => 0) (z2 := fun _ => 0) (z3 := fun _ => 0) (es := fun _ => ⟨0, 0, false⟩) (fun i hi => absurd hi (by omega)) (by omega) (by omega) HK.out).mono ?_
  rintro e w4 ⟨r, J, rfl, hrn, h4, b4⟩
  have HAP : Hid (∀ y ∈ [g, b.v, b.c, b.p], y ∉ J.all r) := Lib.hid fun y hy hy2 => by
    obtain ⟨a1, a2, a3, a4⟩ := H2.out.lt
    have := hrn y hy2
    simp only [List.mem_cons, List.not_mem_nil, or_false] at hy
    rcases hy with rfl | rfl | rfl | rfl <;> omega
  have hW : W.heap.size ≤ w3.heap.size := HB.out.size
  have hsz := HB.out.size
  replace HB := Lib.hid (HB.out.trans (b4.mono hsz))
  replace SB := Lib.hid (SB.out.below b4 SB.out.lt)
  replace H2 := Lib.hid (H2.out.keep b4)
  have R4 := Lib.hid h4
  have HRL : Hid (∀ y ∈ J.all r, W.heap.size ≤ y) := Lib.hid fun y hy => Nat.le_trans hW (hrn y hy)
  clear b4 hsz h4 hrn hW
  go_upto_region 7 with fail
  replace H2 := Lib.hid (H2.out.keep ((Below.refl w4.heap.size w4).alloc (Nat.le_refl _) (.cells #[.int .i64 0, .int .i64 0] 31)))
  replace R4 := Lib.hid (R4.out.keep ((Below.refl w4.heap.size w4).alloc (Nat.le_refl _) (.cells #[.int .i64 0, .int .i64 0] 31)))
  have hsz := HB.out.size
  replace HB := Lib.hid (HB.out.alloc hsz (.cells #[.int .i64 0, .int .i64 0] 31))
  replace SB := Lib.hid (SB.out.alloc (.cells #[.int .i64 0, .int .i64 0] 31))
  clear hsz
  generalize w4.heap.size = gX2 at *
  generalize World.alloc w4 _ = w5 at *
  have B5 := Lib.hid (Blk.new w5 5 #[.int .u8 1, .int .u8 2, .int .u8 3])
  go_wp2_with fail
  have H25 := H2
  have R45 := R4
  replace H2 := Lib.hid (H2.out.keep ((Below.refl w5.heap.size w5).alloc (Nat.le_refl _) (.cells #[.int .u8 1, .int .u8 2, .int .u8 3] 5)))
  replace R4 := Lib.hid (R4.out.keep ((Below.refl w5.heap.size w5).alloc (Nat.le_refl _) (.cells #[.int .u8 1, .int .u8 2, .int .u8 3] 5)))
  have hsz := HB.out.size
  replace HB := Lib.hid (HB.out.alloc hsz (.cells #[.int .u8 1, .int .u8 2, .int .u8 3] 5))
  replace SB := Lib.hid (SB.out.alloc (.cells #[.int .u8 1, .int .u8 2, .int .u8 3] 5))
  have hs5 : w5.heap.size < (w5.alloc (.cells #[.int .u8 1, .int .u8 2, .int .u8 3] 5)).heap.size := by simp
  clear hsz
  have HS5 := Lib.hid HB.out.size
  have R42 := R4
  refine (bnew_any H2.out (by simp) (by omega) (irow_123 B5.out) 50).mono ?_
  rintro e w6 ⟨gB, mB, rv, rfl, hg6, hm6, hb6, b6⟩
  have HG6 := Lib.hid hg6
  have HM6 := Lib.hid hm6
  have HB6 := Lib.hid hb6
  have hsz := HB.out.size
  replace HB := Lib.hid (HB.out.trans (b6.mono hsz))
  replace SB := Lib.hid (SB.out.below b6 SB.out.lt)
  replace R4 := Lib.hid (R4.out.keep b6)
  clear b6 hsz hg6 hm6 hb6 hs5
  go_upto_region 8 with fail
  have B6 := Lib.hid (Blk.new w6 5 #[.int .u8 1, .int .u8 2, .int .u8 3])
  replace R4 := Lib.hid (R4.out.keep ((Below.refl w6.heap.size w6).alloc (Nat.le_refl _) (.cells #[.int .u8 1, .int .u8 2, .int .u8 3] 5)))
  have HB61 := Lib.hid (HB6.out.keep ((Below.refl w6.heap.size w6).alloc (Nat.le_refl _) (.cells #[.int .u8 1, .int .u8 2, .int .u8 3] 5)))
  have hsz := HB.out.size
  replace HB := Lib.hid (HB.out.alloc hsz (.cells #[.int .u8 1, .int .u8 2, .int .u8 3] 5))
  replace SB := Lib.hid (SB.out.alloc (.cells #[.int .u8 1, .int .u8 2, .int .u8 3] 5))
  clear hsz
  have HA1 : Hid (∀ ad, (some ⟨w6.heap.size, 0, none⟩ : Option Addr) = some ad → (∃ C, Blk (w6.alloc (.cells #[.int .u8 1, .int .u8 2, .int .u8 3] 5)) ad.block 5 C) ∧ ad.block ∉ J.all r) := Lib.hid fun ad e => by
    cases e
    refine ⟨⟨_, B6.out⟩, fun hy => ?_⟩
    simp only [Rr.all, List.mem_cons, List.not_mem_nil, or_false] at hy
    rcases hy with e | e | e | e | e | e | e
    · exact B6.out.ne_ R4.out.pg (by decide) e
    · exact B6.out.ne_ R4.out.tm.1 (by decide) e
    · exact B6.out.ne_ R4.out.q.1 (by decide) e
    · exact B6.out.ne_ R4.out.pt.1 (by decide) e
    · exact B6.out.ne_ R4.out.v (by decide) e
    · exact B6.out.ne_ R4.out.c (by decide) e
    · exact B6.out.ne_ R4.out.l (by decide) e
  have HA2 : Hid (∀ ad, (some ⟨w6.heap.size, 0, none⟩ : Option Addr) = some ad → ad.block ∉ bL gB ⟨mB, none, g, b, .slice none 0 0⟩) := Lib.hid fun ad e hy => by
    cases e
    exact Nat.lt_irrefl _ (HB6.out.lt _ hy)
  go_wp2_with fail
  refine (rbnew_any (W := W) R4.out HB.out HRL.out (irow_123 B6.out) HA1.out ⟨by omega, by unfold maxLen; omega⟩ rv (by omega) (by omega)).mono ?_
  rintro e w7 ⟨gR, rfl, hn7⟩
  obtain ⟨Q, x7, hQZ, b7⟩ := bx_new (W := W) H2.out R42.out HGL.out HAP.out HA2.out HS5.out HG6.out HM6.out HB61.out hn7
  have HCQ : Hid (HC W ⟨0, fun _ => ⟨0, 0, false⟩, 0, fun _ => 0, 0, fun _ => 0, 0, fun _ => 0⟩ Q.Z) := Lib.hid (hQZ ▸ ⟨⟨fun i hi => absurd hi (Nat.not_lt_zero i), fun i hi => absurd hi (Nat.not_lt_zero i), fun i hi => absurd hi (Nat.not_lt_zero i), fun i hi => absurd hi (Nat.not_lt_zero i)⟩, by dsimp only; omega⟩)
  have FIT : Hid ((Bs.new rv 3 z123 Hp.new 50).fit 0) := Lib.hid ⟨room_new, fun _ => rfl⟩
  obtain ⟨t0, ht0⟩ : ∃ t0, Bs.new rv 3 z123 Hp.new 50 = t0 := ⟨_, rfl⟩
  rw [ht0] at x7 FIT
  replace SB := Lib.hid (SB.out.below b7 SB.out.lt)
  have X7 := Lib.hid x7
  obtain ⟨P, hP⟩ : ∃ P, (⟨mB, none, g, b, .slice none 0 0⟩ : Bp) = P := ⟨_, rfl⟩
  rw [hP] at X7
  clear x7 hQZ b7 hn7 ht0 hP H25 R45 R42 HGL HAP HRL HS5 HG6 HM6 HB6 HB61 HA1 HA2 B5 B6 H2 R4
  go_wp2_with fail
  go_loopw [11] (fun i wr => ∃ j : Nat, j ≤ n ∧ i = .int .i64 j ∧ ∃ (s1 : Bs) (P1 : Bp) (t1 : Value) (nx1 : Bool), Blk wr W.heap.size 25 (stA rS) ∧ BX W wr gB ⟨0, fun _ => ⟨0, 0, false⟩, 0, fun _ => 0, 0, fun _ => 0, 0, fun _ => 0⟩ P1 gR { Q with tr := t1 } s1 nx1 ∧ s1.fit j) (fun i _ => n - (intOf i).toNat)
  case atStart => exact ⟨0, by omega, rfl, t0, P, Q.tr, _, SB.out, X7.out, FIT.out⟩
  case round =>
    obtain ⟨j, hj, rfl, s1, P1, t1, nx1, hS, hX, hF⟩ := hrel
    have S1 := Lib.hid hS
    have X1 := Lib.hid hX
    have HF1 := Lib.hid hF
    clear hS hX hF
    by_cases hlt : j < n
    · obtain ⟨ad, rfl, hl, c0, c1, c2, c3⟩ := fkCells4 HRQ.out j hlt
      have HPO := Lib.hid (HOK.out j hlt)
      have HC0 := Lib.hid (show W.cell? (ad.add (j * 4)) = some (.int .u8 (sp j).kd) ∧ W.cell? ⟨(ad.add (j * 4)).block, (ad.add (j * 4)).off + 1, none⟩ = some (.int .u16 (sp j).ad) ∧ W.cell? ⟨(ad.add (j * 4)).block, (ad.add (j * 4)).off + 2, none⟩ = some (.bool (sp j).wr) ∧ W.cell? ⟨(ad.add (j * 4)).block, (ad.add (j * 4)).off + 3, none⟩ = some (.int .u8 (sp j).dt) from ⟨c0, c1, c2, c3⟩)
      have HLT := Lib.hid hl
      have CC : ∀ w', Below W.heap.size W w' → (w'.cell? (ad.add (j * 4)) = some (.int .u8 (sp j).kd) ∧ w'.cell? ⟨(ad.add (j * 4)).block, (ad.add (j * 4)).off + 1, none⟩ = some (.int .u16 (sp j).ad) ∧ w'.cell? ⟨(ad.add (j * 4)).block, (ad.add (j * 4)).off + 2, none⟩ = some (.bool (sp j).wr) ∧ w'.cell? ⟨(ad.add (j * 4)).block, (ad.add (j * 4)).off + 3, none⟩ = some (.int .u8 (sp j).dt)) := fun w' hb => ⟨(hb.cell (by rw [block_of_add]; exact HLT.out)).trans HC0.out.1, (hb.cell (by show (ad.add (j * 4)).block < _; rw [block_of_add]; exact HLT.out)).trans HC0.out.2.1, (hb.cell (by show (ad.add (j * 4)).block < _; rw [block_of_add]; exact HLT.out)).trans HC0.out.2.2.1, (hb.cell (by show (ad.add (j * 4)).block < _; rw [block_of_add]; exact HLT.out)).trans HC0.out.2.2.2⟩
      have HCC := Lib.hid CC
      have C1 := Lib.hid (CC _ X1.out.rb.old)
      have i1 : (j : Int) < n := by omega
      clear c0 c1 c2 c3 hl CC
      go_upto_region 12 with fail
      have XD := Lib.hid (X1.out.kp0 (Kp.refl [] wr).drew)
      refine rg_begin (S := fun w' => Blk w' W.heap.size 25 (stA rS) ∧ w'.cell? (ad.add (j * 4)) = some (.int .u8 (sp j).kd) ∧ w'.cell? ⟨(ad.add (j * 4)).block, (ad.add (j * 4)).off + 1, none⟩ = some (.int .u16 (sp j).ad) ∧ w'.cell? ⟨(ad.add (j * 4)).block, (ad.add (j * 4)).off + 2, none⟩ = some (.bool (sp j).wr) ∧ w'.cell? ⟨(ad.add (j * 4)).block, (ad.add (j * 4)).off + 3, none⟩ = some (.int .u8 (sp j).dt)) 8 #[false, false, false, false, false, false, false, false] (by kernel_rfl) (by kernel_rfl) (by kernel_rfl) ?_ (fun hHeld => ?_)
      · exact ⟨S1.out.drew_, C1.out⟩
      refine rg_take (i := 0) (d := some 41) (l := #[true, false, false, false, false, false, false, false]) (fuel := 7) (v := ?_) rfl (by kernel_rfl) (by kernel_rfl) (by kernel_rfl) (by kernel_rfl) (by kernel_rfl) (fun _ _ _ h => h) (by kernel_rfl) ?_ (by assumption) ?_
      rotate_left 1
      · (intro wS hSw; (try dsimp only at hSw); go_simp; try with_reducible rfl)
      try simp only [Act.put, List.setIfInBounds_toArray, List.set_cons_zero, List.set_cons_succ]
      refine rg_take (i := 2) (d := some 43) (l := #[true, false, true, false, false, false, false, false]) (fuel := 6) (v := ?_) rfl (by kernel_rfl) (by kernel_rfl) (by kernel_rfl) (by kernel_rfl) (by kernel_rfl) (fun _ _ _ h => h) (by kernel_rfl) ?_ (by assumption) ?_
      rotate_left 1
      · (intro wS hSw; (try dsimp only at hSw); go_simp; try with_reducible rfl)
      try simp only [Act.put, List.setIfInBounds_toArray, List.set_cons_zero, List.set_cons_succ]
      refine rg_take (i := 3) (d := some 44) (l := #[true, false, true, true, false, false, false, false]) (fuel := 5) (v := ?_) rfl (by kernel_rfl) (by kernel_rfl) (by kernel_rfl) (by kernel_rfl) (by kernel_rfl) (fun _ _ _ h => h) (by kernel_rfl) ?_ (by assumption) ?_
      rotate_left 1
      · (intro wS hSw; (try dsimp only at hSw); go_simp; try with_reducible rfl)
      try simp only [Act.put, List.setIfInBounds_toArray, List.set_cons_zero, List.set_cons_succ]
      refine rg_take (i := 4) (d := some 45) (l := #[true, false, true, true, true, false, false, false]) (fuel := 4) (v := ?_) rfl (by kernel_rfl) (by kernel_rfl) (by kernel_rfl) (by kernel_rfl) (by kernel_rfl) (fun _ _ _ h => h) (by kernel_rfl) ?_ (by assumption) ?_
      rotate_left 1
      · (intro wS hSw; (try dsimp only at hSw); go_simp; try with_reducible rfl)
      try simp only [Act.put, List.setIfInBounds_toArray, List.set_cons_zero, List.set_cons_succ]
      refine rg_take (i := 1) (d := some 42) (l := #[true, true, true, true, true, false, false, false]) (fuel := 3) (v := .agg (stA rS)) rfl (by kernel_rfl) (by kernel_rfl) (by kernel_rfl) (by kernel_rfl) (by kernel_rfl) (fun _ _ _ h => h) (by kernel_rfl) ?_ (by assumption) ?_
      · (intro wS hSw; (try dsimp only at hSw); exact erow_load rS rfl rfl hSw.1)
      try simp only [Act.put, List.setIfInBounds_toArray, List.set_cons_zero, List.set_cons_succ]
      refine rg_take (i := 5) (d := some 46) (l := #[true, true, true, true, true, true, false, false]) (fuel := 2) (v := .agg (acA (sp j).kd (sp j).ad (sp j).wr (sp j).dt)) rfl (by kernel_rfl) (by kernel_rfl) (by kernel_rfl) (by kernel_rfl) (by kernel_rfl) (fun _ _ _ h => h) (by kernel_rfl) ?_ (by assumption) ?_
      · (intro wS hSw; (try dsimp only at hSw); (obtain ⟨_, y0, y1, y2, y3⟩ := hSw; go_simp; unfold acA; try with_reducible rfl))
      try simp only [Act.put, List.setIfInBounds_toArray, List.set_cons_zero, List.set_cons_succ]
      refine rg_next (i := 6) (l := #[true, true, true, true, true, true, true, false]) (fuel := 1) (by kernel_rfl) rfl (by kernel_rfl) (by kernel_rfl) (fun K hK => ?_)
      go_simp
      go_at_call 9
      refine (eacc_bu XD.out.bu HRO.out HF1.out.1 (by omega) (sp j) HPO.out).mono ?_
      rintro e w2 ⟨P2, rfl, b2, k2, f2, e21, e22, e23⟩
      have RB2 := Lib.hid (XD.out.ref1 k2)
      have BU2 := Lib.hid b2
      have K2 := Lib.hid k2
      have F2 := Lib.hid f2
      have E2 := Lib.hid e22
      have S2 := Lib.hid (S1.out.drew_.kp k2 (XD.out.bu.offS S1.out.drew_ (.inl rfl)))
      have C2 := Lib.hid (HCC.out _ RB2.out.old)
      clear b2 k2 f2 e21 e22 e23
      first | (refine hK.out _ _ ?_ (fun hHeld => ?_)) | (go_wp2_with fail; refine hK.out _ _ ?_ (fun hHeld => ?_))
      · (try dsimp only); exact ⟨S2.out, C2.out⟩
      clear hK K
      try simp only [Act.put, List.setIfInBounds_toArray, List.set_cons_zero, List.set_cons_succ]
      refine rg_take (i := 7) (d := some 12) (l := #[true, true, true, true, true, true, true, true]) (fuel := 0) (v := ?_) rfl (by kernel_rfl) (by kernel_rfl) (by kernel_rfl) (by kernel_rfl) (by kernel_rfl) (fun _ _ _ h => h) (by kernel_rfl) ?_ (by assumption) ?_
      rotate_left 1
      · (intro wS hSw; (try dsimp only at hSw); go_simp; try with_reducible rfl)
      try simp only [Act.put, List.setIfInBounds_toArray, List.set_cons_zero, List.set_cons_succ]
      refine wpAnyH_done (by kernel_rfl) ?_ _
      have HPB := Lib.hid (phI_bd HRO.out (sp j).ad HPO.out.a0 HPO.out.a1)
      have L2 := Lib.hid BU2.out.lt
      obtain ⟨va, hva⟩ : ∃ va, acV ⟨0, fun _ => ⟨0, 0, false⟩, 0, fun _ => 0, 0, fun _ => 0, 0, fun _ => 0⟩ rS s1 (sp j) = va := ⟨_, rfl⟩
      rw [hva]
      have HVA := Lib.hid hva
      have c2 : w2.cell? ⟨(ad.add (j * 4)).block, (ad.add (j * 4)).off + 2, none⟩ = some (.bool (sp j).wr) := C2.out.2.2.1
      have mv : (va != va) = false := by simp
      clear hva
      go_upto_region 15 with fail
      · rename_i hb
        have e1 : acS ⟨0, fun _ => ⟨0, 0, false⟩, 0, fun _ => 0, 0, fun _ => 0, 0, fun _ => 0⟩ rS s1 (sp j) = s1.wrS1 ⟨0, fun _ => ⟨0, 0, false⟩, 0, fun _ => 0, 0, fun _ => 0, 0, fun _ => 0⟩ (phI (pgF rS) (sp j).ad) (sp j).dt (sp j).kd := by unfold acS; rw [if_pos hb]
        have e2 : va = 0 := by rw [← HVA.out]; unfold acV; rw [if_pos hb]
        have HE1 := Lib.hid e1
        have HE2 := Lib.hid e2
        clear e1 e2
        have BD2 := Lib.hid (BU2.out.kp0 (Kp.refl [] w2).drew)
        have RD2 := Lib.hid (RB2.out.kp0 (Kp.refl [] w2).drew)
        refine rg_begin (S := fun w' => Blk w' W.heap.size 25 (stA rS) ∧ w'.cell? (ad.add (j * 4)) = some (.int .u8 (sp j).kd) ∧ w'.cell? ⟨(ad.add (j * 4)).block, (ad.add (j * 4)).off + 1, none⟩ = some (.int .u16 (sp j).ad) ∧ w'.cell? ⟨(ad.add (j * 4)).block, (ad.add (j * 4)).off + 2, none⟩ = some (.bool (sp j).wr) ∧ w'.cell? ⟨(ad.add (j * 4)).block, (ad.add (j * 4)).off + 3, none⟩ = some (.int .u8 (sp j).dt)) 19 #[false, false, false, false, false, false, false, false, false, false, false, false, false, false, false, false, false, false, false] (by kernel_rfl) (by kernel_rfl) (by kernel_rfl) ?_ (fun hHeld => ?_)
        · exact ⟨S2.out.drew_, C2.out⟩
        refine rg_take (i := 0) (d := some 53) (l := #[true, false, false, false, false, false, false, false, false, false, false, false, false, false, false, false, false, false, false]) (fuel := 18) (v := ?_) rfl (by kernel_rfl) (by kernel_rfl) (by kernel_rfl) (by kernel_rfl) (by kernel_rfl) (fun _ _ _ h => h) (by kernel_rfl) ?_ (by assumption) ?_
        rotate_left 1
        · (intro wS hSw; (try dsimp only at hSw); go_simp; try with_reducible rfl)
        try simp only [Act.put, List.setIfInBounds_toArray, List.set_cons_zero, List.set_cons_succ]
        refine rg_take (i := 1) (d := some 54) (l := #[true, true, false, false, false, false, false, false, false, false, false, false, false, false, false, false, false, false, false]) (fuel := 17) (v := .agg (stA rS)) rfl (by kernel_rfl) (by kernel_rfl) (by kernel_rfl) (by kernel_rfl) (by kernel_rfl) (fun _ _ _ h => h) (by kernel_rfl) ?_ (by assumption) ?_
        · (intro wS hSw; (try dsimp only at hSw); exact erow_load rS rfl rfl hSw.1)
        try simp only [Act.put, List.setIfInBounds_toArray, List.set_cons_zero, List.set_cons_succ]
        refine rg_take (i := 2) (d := some 55) (l := #[true, true, true, false, false, false, false, false, false, false, false, false, false, false, false, false, false, false, false]) (fuel := 16) (v := ?_) rfl (by kernel_rfl) (by kernel_rfl) (by kernel_rfl) (by kernel_rfl) (by kernel_rfl) (fun _ _ _ h => h) (by kernel_rfl) ?_ (by assumption) ?_
        rotate_left 1
        · (intro wS hSw; (try dsimp only at hSw); go_simp; try with_reducible rfl)
        try simp only [Act.put, List.setIfInBounds_toArray, List.set_cons_zero, List.set_cons_succ]
        refine rg_take (i := 3) (d := some 56) (l := #[true, true, true, true, false, false, false, false, false, false, false, false, false, false, false, false, false, false, false]) (fuel := 15) (v := ?_) rfl (by kernel_rfl) (by kernel_rfl) (by kernel_rfl) (by kernel_rfl) (by kernel_rfl) (fun _ _ _ h => h) (by kernel_rfl) ?_ (by assumption) ?_
        rotate_left 1
        · (intro wS hSw; (try dsimp only at hSw); go_simp; try with_reducible rfl)
        try simp only [Act.put, List.setIfInBounds_toArray, List.set_cons_zero, List.set_cons_succ]
        refine rg_take (i := 4) (d := some 57) (l := #[true, true, true, true, true, false, false, false, false, false, false, false, false, false, false, false, false, false, false]) (fuel := 14) (v := ?_) rfl (by kernel_rfl) (by kernel_rfl) (by kernel_rfl) (by kernel_rfl) (by kernel_rfl) (fun _ _ _ h => h) (by kernel_rfl) ?_ (by assumption) ?_
        rotate_left 1
        · (intro wS hSw; (try dsimp only at hSw); go_simp; try with_reducible rfl)
        try simp only [Act.put, List.setIfInBounds_toArray, List.set_cons_zero, List.set_cons_succ]
        refine rg_take (i := 5) (d := some 58) (l := #[true, true, true, true, true, true, false, false, false, false, false, false, false, false, false, false, false, false, false]) (fuel := 13) (v := ?_) rfl (by kernel_rfl) (by kernel_rfl) (by kernel_rfl) (by kernel_rfl) (by kernel_rfl) (fun _ _ _ h => h) (by kernel_rfl) ?_ (by assumption) ?_
        rotate_left 1
        · (intro wS hSw; (try dsimp only at hSw); go_simp; try with_reducible rfl)
        try simp only [Act.put, List.setIfInBounds_toArray, List.set_cons_zero, List.set_cons_succ]
        refine rg_take (i := 6) (d := some 59) (l := #[true, true, true, true, true, true, true, false, false, false, false, false, false, false, false, false, false, false, false]) (fuel := 12) (v := .int .u16 (sp j).ad) rfl (by kernel_rfl) (by kernel_rfl) (by kernel_rfl) (by kernel_rfl) (by kernel_rfl) (fun _ _ _ h => h) (by kernel_rfl) ?_ (by assumption) ?_
        · (intro wS hSw; (try dsimp only at hSw); (obtain ⟨_, y0, y1, y2, y3⟩ := hSw; go_simp))
        try simp only [Act.put, List.setIfInBounds_toArray, List.set_cons_zero, List.set_cons_succ]
        refine rg_take (i := 8) (d := some 61) (l := #[true, true, true, true, true, true, true, false, true, false, false, false, false, false, false, false, false, false, false]) (fuel := 11) (v := ?_) rfl (by kernel_rfl) (by kernel_rfl) (by kernel_rfl) (by kernel_rfl) (by kernel_rfl) (fun _ _ _ h => h) (by kernel_rfl) ?_ (by assumption) ?_
        rotate_left 1
        · (intro wS hSw; (try dsimp only at hSw); go_simp; try with_reducible rfl)
        try simp only [Act.put, List.setIfInBounds_toArray, List.set_cons_zero, List.set_cons_succ]
        refine rg_take (i := 9) (d := some 62) (l := #[true, true, true, true, true, true, true, false, true, true, false, false, false, false, false, false, false, false, false]) (fuel := 10) (v := ?_) rfl (by kernel_rfl) (by kernel_rfl) (by kernel_rfl) (by kernel_rfl) (by kernel_rfl) (fun _ _ _ h => h) (by kernel_rfl) ?_ (by assumption) ?_
        rotate_left 1
        · (intro wS hSw; (try dsimp only at hSw); go_simp; try with_reducible rfl)
        try simp only [Act.put, List.setIfInBounds_toArray, List.set_cons_zero, List.set_cons_succ]
        refine rg_take (i := 10) (d := some 63) (l := #[true, true, true, true, true, true, true, false, true, true, true, false, false, false, false, false, false, false, false]) (fuel := 9) (v := ?_) rfl (by kernel_rfl) (by kernel_rfl) (by kernel_rfl) (by kernel_rfl) (by kernel_rfl) (fun _ _ _ h => h) (by kernel_rfl) ?_ (by assumption) ?_
        rotate_left 1
        · (intro wS hSw; (try dsimp only at hSw); go_simp; try with_reducible rfl)
        try simp only [Act.put, List.setIfInBounds_toArray, List.set_cons_zero, List.set_cons_succ]
        refine rg_take (i := 11) (d := some 64) (l := #[true, true, true, true, true, true, true, false, true, true, true, true, false, false, false, false, false, false, false]) (fuel := 8) (v := ?_) rfl (by kernel_rfl) (by kernel_rfl) (by kernel_rfl) (by kernel_rfl) (by kernel_rfl) (fun _ _ _ h => h) (by kernel_rfl) ?_ (by assumption) ?_
        rotate_left 1
        · (intro wS hSw; (try dsimp only at hSw); go_simp; try with_reducible rfl)
        try simp only [Act.put, List.setIfInBounds_toArray, List.set_cons_zero, List.set_cons_succ]
        refine rg_take (i := 12) (d := some 65) (l := #[true, true, true, true, true, true, true, false, true, true, true, true, true, false, false, false, false, false, false]) (fuel := 7) (v := .int .u8 (sp j).dt) rfl (by kernel_rfl) (by kernel_rfl) (by kernel_rfl) (by kernel_rfl) (by kernel_rfl) (fun _ _ _ h => h) (by kernel_rfl) ?_ (by assumption) ?_
        · (intro wS hSw; (try dsimp only at hSw); (obtain ⟨_, y0, y1, y2, y3⟩ := hSw; go_simp))
        try simp only [Act.put, List.setIfInBounds_toArray, List.set_cons_zero, List.set_cons_succ]
        refine rg_take (i := 13) (d := some 66) (l := #[true, true, true, true, true, true, true, false, true, true, true, true, true, true, false, false, false, false, false]) (fuel := 6) (v := ?_) rfl (by kernel_rfl) (by kernel_rfl) (by kernel_rfl) (by kernel_rfl) (by kernel_rfl) (fun _ _ _ h => h) (by kernel_rfl) ?_ (by assumption) ?_
        rotate_left 1
        · (intro wS hSw; (try dsimp only at hSw); go_simp; try with_reducible rfl)
        try simp only [Act.put, List.setIfInBounds_toArray, List.set_cons_zero, List.set_cons_succ]
        refine rg_take (i := 14) (d := some 67) (l := #[true, true, true, true, true, true, true, false, true, true, true, true, true, true, true, false, false, false, false]) (fuel := 5) (v := ?_) rfl (by kernel_rfl) (by kernel_rfl) (by kernel_rfl) (by kernel_rfl) (by kernel_rfl) (fun _ _ _ h => h) (by kernel_rfl) ?_ (by assumption) ?_
        rotate_left 1
        · (intro wS hSw; (try dsimp only at hSw); go_simp; try with_reducible rfl)
        try simp only [Act.put, List.setIfInBounds_toArray, List.set_cons_zero, List.set_cons_succ]
        refine rg_take (i := 15) (d := some 68) (l := #[true, true, true, true, true, true, true, false, true, true, true, true, true, true, true, true, false, false, false]) (fuel := 4) (v := ?_) rfl (by kernel_rfl) (by kernel_rfl) (by kernel_rfl) (by kernel_rfl) (by kernel_rfl) (fun _ _ _ h => h) (by kernel_rfl) ?_ (by assumption) ?_
        rotate_left 1
        · (intro wS hSw; (try dsimp only at hSw); go_simp; try with_reducible rfl)
        try simp only [Act.put, List.setIfInBounds_toArray, List.set_cons_zero, List.set_cons_succ]
        refine rg_take (i := 16) (d := some 69) (l := #[true, true, true, true, true, true, true, false, true, true, true, true, true, true, true, true, true, false, false]) (fuel := 3) (v := ?_) rfl (by kernel_rfl) (by kernel_rfl) (by kernel_rfl) (by kernel_rfl) (by kernel_rfl) (fun _ _ _ h => h) (by kernel_rfl) ?_ (by assumption) ?_
        rotate_left 1
        · (intro wS hSw; (try dsimp only at hSw); go_simp; try with_reducible rfl)
        try simp only [Act.put, List.setIfInBounds_toArray, List.set_cons_zero, List.set_cons_succ]
        refine rg_take (i := 17) (d := some 70) (l := #[true, true, true, true, true, true, true, false, true, true, true, true, true, true, true, true, true, true, false]) (fuel := 2) (v := .int .u8 (sp j).kd) rfl (by kernel_rfl) (by kernel_rfl) (by kernel_rfl) (by kernel_rfl) (by kernel_rfl) (fun _ _ _ h => h) (by kernel_rfl) ?_ (by assumption) ?_
        · (intro wS hSw; (try dsimp only at hSw); (obtain ⟨_, y0, y1, y2, y3⟩ := hSw; go_simp))
        try simp only [Act.put, List.setIfInBounds_toArray, List.set_cons_zero, List.set_cons_succ]
        refine rg_next (i := 7) (l := #[true, true, true, true, true, true, true, true, true, true, true, true, true, true, true, true, true, true, false]) (fuel := 1) (by kernel_rfl) rfl (by kernel_rfl) (by kernel_rfl) (fun K hK => ?_)
        go_simp
        go_at_call 11
        refine (rphys27_any rS HRO.out (sp j).ad HPO.out.a0 HPO.out.a1 _).mono ?_
        rintro e w3 ⟨rfl, hb3⟩
        have RBc := Lib.hid (RD2.out.keep hb3)
        have BU3 := Lib.hid (BD2.out.keep hb3)
        have S3 := Lib.hid (Blk.below (w := w2.drew) S2.out hb3 (Blk.lt (w := w2) S2.out))
        have C3 := Lib.hid (HCC.out _ RBc.out.old)
        have SZ3 : Hid (w2.heap.size ≤ w3.heap.size) := Lib.hid hb3.size
        clear hb3
        first | (refine hK.out _ _ ?_ (fun hHeld => ?_)) | (go_wp2_with fail; refine hK.out _ _ ?_ (fun hHeld => ?_))
        · (try dsimp only); exact ⟨S3.out, C3.out⟩
        clear hK K
        try simp only [Act.put, List.setIfInBounds_toArray, List.set_cons_zero, List.set_cons_succ]
        refine rg_next (i := 18) (l := #[true, true, true, true, true, true, true, true, true, true, true, true, true, true, true, true, true, true, true]) (fuel := 0) (by kernel_rfl) rfl (by kernel_rfl) (by kernel_rfl) (fun K hK => ?_)
        go_simp
        go_at_call 10
        refine (rbwrite1 XD.out.bu.ok XD.out.bu.pg.ok XD.out.bu.pg.gd RBc.out HCQ.out HF1.out.1 (by omega) (phI (pgF rS) (sp j).ad) (sp j).dt (sp j).kd HPB.out.1 HPB.out.2 HPO.out.d0 HPO.out.d1).mono ?_
        rintro e w4 ⟨t4, rfl, r4, k4, f4⟩
        rw [← HE1.out] at r4
        have X4 := Lib.hid (BX.three (w3 := w3) XD.out K2.out F2.out E2.out SZ3.out BU3.out L2.out RBc.out r4 k4 f4)
        have S4 := Lib.hid (S3.out.kp k4 (RBc.out.offS S3.out (.inl rfl)))
        have C4 := Lib.hid (HCC.out _ X4.out.rb.old)
        clear r4 k4 f4
        first | (refine hK.out _ _ ?_ (fun hHeld => ?_)) | (go_wp2_with fail; refine hK.out _ _ ?_ (fun hHeld => ?_))
        · (try dsimp only); exact ⟨S4.out, C4.out⟩
        clear hK K
        try simp only [Act.put, List.setIfInBounds_toArray, List.set_cons_zero, List.set_cons_succ]
        refine wpAnyH_done (by kernel_rfl) ?_ _
        have e2 := HE2.out
        subst e2
        go_wp2_with fail
        go_roundw
        case rel => exact ⟨j + 1, by omega, by go_num, _, _, _, _, S4.out, X4.out, fit_ac HF1.out _⟩
        case measure => simp [intOf]; omega
      · rename_i hb
        have e1 : acS ⟨0, fun _ => ⟨0, 0, false⟩, 0, fun _ => 0, 0, fun _ => 0, 0, fun _ => 0⟩ rS s1 (sp j) = s1.rdS1 ⟨0, fun _ => ⟨0, 0, false⟩, 0, fun _ => 0, 0, fun _ => 0, 0, fun _ => 0⟩ (phI (pgF rS) (sp j).ad) (sp j).kd := by unfold acS; rw [if_neg (by rw [hb]; decide)]
        have e2 : va = s1.rdV1 ⟨0, fun _ => ⟨0, 0, false⟩, 0, fun _ => 0, 0, fun _ => 0, 0, fun _ => 0⟩ (phI (pgF rS) (sp j).ad) := by rw [← HVA.out]; unfold acV; rw [if_neg (by rw [hb]; decide)]
        have HE1 := Lib.hid e1
        have HE2 := Lib.hid e2
        clear e1 e2
        have BD2 := Lib.hid (BU2.out.kp0 (Kp.refl [] w2).drew)
        have RD2 := Lib.hid (RB2.out.kp0 (Kp.refl [] w2).drew)
        refine rg_begin (S := fun w' => Blk w' W.heap.size 25 (stA rS) ∧ w'.cell? (ad.add (j * 4)) = some (.int .u8 (sp j).kd) ∧ w'.cell? ⟨(ad.add (j * 4)).block, (ad.add (j * 4)).off + 1, none⟩ = some (.int .u16 (sp j).ad) ∧ w'.cell? ⟨(ad.add (j * 4)).block, (ad.add (j * 4)).off + 2, none⟩ = some (.bool (sp j).wr) ∧ w'.cell? ⟨(ad.add (j * 4)).block, (ad.add (j * 4)).off + 3, none⟩ = some (.int .u8 (sp j).dt)) 15 #[false, false, false, false, false, false, false, false, false, false, false, false, false, false, false] (by kernel_rfl) (by kernel_rfl) (by kernel_rfl) ?_ (fun hHeld => ?_)
        · exact ⟨S2.out.drew_, C2.out⟩
        refine rg_take (i := 0) (d := some 72) (l := #[true, false, false, false, false, false, false, false, false, false, false, false, false, false, false]) (fuel := 14) (v := ?_) rfl (by kernel_rfl) (by kernel_rfl) (by kernel_rfl) (by kernel_rfl) (by kernel_rfl) (fun _ _ _ h => h) (by kernel_rfl) ?_ (by assumption) ?_
        rotate_left 1
        · (intro wS hSw; (try dsimp only at hSw); go_simp; try with_reducible rfl)
        try simp only [Act.put, List.setIfInBounds_toArray, List.set_cons_zero, List.set_cons_succ]
        refine rg_take (i := 1) (d := some 73) (l := #[true, true, false, false, false, false, false, false, false, false, false, false, false, false, false]) (fuel := 13) (v := .agg (stA rS)) rfl (by kernel_rfl) (by kernel_rfl) (by kernel_rfl) (by kernel_rfl) (by kernel_rfl) (fun _ _ _ h => h) (by kernel_rfl) ?_ (by assumption) ?_
        · (intro wS hSw; (try dsimp only at hSw); exact erow_load rS rfl rfl hSw.1)
        try simp only [Act.put, List.setIfInBounds_toArray, List.set_cons_zero, List.set_cons_succ]
        refine rg_take (i := 2) (d := some 74) (l := #[true, true, true, false, false, false, false, false, false, false, false, false, false, false, false]) (fuel := 12) (v := ?_) rfl (by kernel_rfl) (by kernel_rfl) (by kernel_rfl) (by kernel_rfl) (by kernel_rfl) (fun _ _ _ h => h) (by kernel_rfl) ?_ (by assumption) ?_
        rotate_left 1
        · (intro wS hSw; (try dsimp only at hSw); go_simp; try with_reducible rfl)
        try simp only [Act.put, List.setIfInBounds_toArray, List.set_cons_zero, List.set_cons_succ]
        refine rg_take (i := 3) (d := some 75) (l := #[true, true, true, true, false, false, false, false, false, false, false, false, false, false, false]) (fuel := 11) (v := ?_) rfl (by kernel_rfl) (by kernel_rfl) (by kernel_rfl) (by kernel_rfl) (by kernel_rfl) (fun _ _ _ h => h) (by kernel_rfl) ?_ (by assumption) ?_
        rotate_left 1
        · (intro wS hSw; (try dsimp only at hSw); go_simp; try with_reducible rfl)
        try simp only [Act.put, List.setIfInBounds_toArray, List.set_cons_zero, List.set_cons_succ]
        refine rg_take (i := 4) (d := some 76) (l := #[true, true, true, true, true, false, false, false, false, false, false, false, false, false, false]) (fuel := 10) (v := ?_) rfl (by kernel_rfl) (by kernel_rfl) (by kernel_rfl) (by kernel_rfl) (by kernel_rfl) (fun _ _ _ h => h) (by kernel_rfl) ?_ (by assumption) ?_
        rotate_left 1
        · (intro wS hSw; (try dsimp only at hSw); go_simp; try with_reducible rfl)
        try simp only [Act.put, List.setIfInBounds_toArray, List.set_cons_zero, List.set_cons_succ]
        refine rg_take (i := 5) (d := some 77) (l := #[true, true, true, true, true, true, false, false, false, false, false, false, false, false, false]) (fuel := 9) (v := ?_) rfl (by kernel_rfl) (by kernel_rfl) (by kernel_rfl) (by kernel_rfl) (by kernel_rfl) (fun _ _ _ h => h) (by kernel_rfl) ?_ (by assumption) ?_
        rotate_left 1
        · (intro wS hSw; (try dsimp only at hSw); go_simp; try with_reducible rfl)
        try simp only [Act.put, List.setIfInBounds_toArray, List.set_cons_zero, List.set_cons_succ]
        refine rg_take (i := 6) (d := some 78) (l := #[true, true, true, true, true, true, true, false, false, false, false, false, false, false, false]) (fuel := 8) (v := .int .u16 (sp j).ad) rfl (by kernel_rfl) (by kernel_rfl) (by kernel_rfl) (by kernel_rfl) (by kernel_rfl) (fun _ _ _ h => h) (by kernel_rfl) ?_ (by assumption) ?_
        · (intro wS hSw; (try dsimp only at hSw); (obtain ⟨_, y0, y1, y2, y3⟩ := hSw; go_simp))
        try simp only [Act.put, List.setIfInBounds_toArray, List.set_cons_zero, List.set_cons_succ]
        refine rg_take (i := 8) (d := some 80) (l := #[true, true, true, true, true, true, true, false, true, false, false, false, false, false, false]) (fuel := 7) (v := ?_) rfl (by kernel_rfl) (by kernel_rfl) (by kernel_rfl) (by kernel_rfl) (by kernel_rfl) (fun _ _ _ h => h) (by kernel_rfl) ?_ (by assumption) ?_
        rotate_left 1
        · (intro wS hSw; (try dsimp only at hSw); go_simp; try with_reducible rfl)
        try simp only [Act.put, List.setIfInBounds_toArray, List.set_cons_zero, List.set_cons_succ]
        refine rg_take (i := 9) (d := some 81) (l := #[true, true, true, true, true, true, true, false, true, true, false, false, false, false, false]) (fuel := 6) (v := ?_) rfl (by kernel_rfl) (by kernel_rfl) (by kernel_rfl) (by kernel_rfl) (by kernel_rfl) (fun _ _ _ h => h) (by kernel_rfl) ?_ (by assumption) ?_
        rotate_left 1
        · (intro wS hSw; (try dsimp only at hSw); go_simp; try with_reducible rfl)
        try simp only [Act.put, List.setIfInBounds_toArray, List.set_cons_zero, List.set_cons_succ]
        refine rg_take (i := 10) (d := some 82) (l := #[true, true, true, true, true, true, true, false, true, true, true, false, false, false, false]) (fuel := 5) (v := ?_) rfl (by kernel_rfl) (by kernel_rfl) (by kernel_rfl) (by kernel_rfl) (by kernel_rfl) (fun _ _ _ h => h) (by kernel_rfl) ?_ (by assumption) ?_
        rotate_left 1
        · (intro wS hSw; (try dsimp only at hSw); go_simp; try with_reducible rfl)
        try simp only [Act.put, List.setIfInBounds_toArray, List.set_cons_zero, List.set_cons_succ]
        refine rg_take (i := 11) (d := some 83) (l := #[true, true, true, true, true, true, true, false, true, true, true, true, false, false, false]) (fuel := 4) (v := ?_) rfl (by kernel_rfl) (by kernel_rfl) (by kernel_rfl) (by kernel_rfl) (by kernel_rfl) (fun _ _ _ h => h) (by kernel_rfl) ?_ (by assumption) ?_
        rotate_left 1
        · (intro wS hSw; (try dsimp only at hSw); go_simp; try with_reducible rfl)
        try simp only [Act.put, List.setIfInBounds_toArray, List.set_cons_zero, List.set_cons_succ]
        refine rg_take (i := 12) (d := some 84) (l := #[true, true, true, true, true, true, true, false, true, true, true, true, true, false, false]) (fuel := 3) (v := .int .u8 (sp j).kd) rfl (by kernel_rfl) (by kernel_rfl) (by kernel_rfl) (by kernel_rfl) (by kernel_rfl) (fun _ _ _ h => h) (by kernel_rfl) ?_ (by assumption) ?_
        · (intro wS hSw; (try dsimp only at hSw); (obtain ⟨_, y0, y1, y2, y3⟩ := hSw; go_simp))
        try simp only [Act.put, List.setIfInBounds_toArray, List.set_cons_zero, List.set_cons_succ]
        refine rg_next (i := 7) (l := #[true, true, true, true, true, true, true, true, true, true, true, true, true, false, false]) (fuel := 2) (by kernel_rfl) rfl (by kernel_rfl) (by kernel_rfl) (fun K hK => ?_)
        go_simp
        go_at_call 11
        refine (rphys27_any rS HRO.out (sp j).ad HPO.out.a0 HPO.out.a1 _).mono ?_
        rintro e w3 ⟨rfl, hb3⟩
        have RBc := Lib.hid (RD2.out.keep hb3)
        have BU3 := Lib.hid (BD2.out.keep hb3)
        have S3 := Lib.hid (Blk.below (w := w2.drew) S2.out hb3 (Blk.lt (w := w2) S2.out))
        have C3 := Lib.hid (HCC.out _ RBc.out.old)
        have SZ3 : Hid (w2.heap.size ≤ w3.heap.size) := Lib.hid hb3.size
        clear hb3
        first | (refine hK.out _ _ ?_ (fun hHeld => ?_)) | (go_wp2_with fail; refine hK.out _ _ ?_ (fun hHeld => ?_))
        · (try dsimp only); exact ⟨S3.out, C3.out⟩
        clear hK K
        try simp only [Act.put, List.setIfInBounds_toArray, List.set_cons_zero, List.set_cons_succ]
        refine rg_next (i := 13) (l := #[true, true, true, true, true, true, true, true, true, true, true, true, true, true, false]) (fuel := 1) (by kernel_rfl) rfl (by kernel_rfl) (by kernel_rfl) (fun K hK => ?_)
        go_simp
        go_at_call 12
        refine (rbread1 XD.out.bu.ok XD.out.bu.pg.ok XD.out.bu.pg.gd RBc.out HCQ.out HF1.out.1 (by omega) (phI (pgF rS) (sp j).ad) (sp j).kd HPB.out.1 HPB.out.2).mono ?_
        rintro e w4 ⟨t4, rfl, r4, k4, f4⟩
        rw [← HE1.out] at r4
        have X4 := Lib.hid (BX.three (w3 := w3) XD.out K2.out F2.out E2.out SZ3.out BU3.out L2.out RBc.out r4 k4 f4)
        have S4 := Lib.hid (S3.out.kp k4 (RBc.out.offS S3.out (.inl rfl)))
        have C4 := Lib.hid (HCC.out _ X4.out.rb.old)
        clear r4 k4 f4
        rw [← HE2.out]
        first | (refine hK.out _ _ ?_ (fun hHeld => ?_)) | (go_wp2_with fail; refine hK.out _ _ ?_ (fun hHeld => ?_))
        · (try dsimp only); exact ⟨S4.out, C4.out⟩
        clear hK K
        try simp only [Act.put, List.setIfInBounds_toArray, List.set_cons_zero, List.set_cons_succ]
        refine rg_take (i := 14) (d := some 13) (l := #[true, true, true, true, true, true, true, true, true, true, true, true, true, true, true]) (fuel := 0) (v := ?_) rfl (by kernel_rfl) (by kernel_rfl) (by kernel_rfl) (by kernel_rfl) (by kernel_rfl) (fun _ _ _ h => h) (by kernel_rfl) ?_ (by assumption) ?_
        rotate_left 1
        · (intro wS hSw; (try dsimp only at hSw); go_simp; try with_reducible rfl)
        try simp only [Act.put, List.setIfInBounds_toArray, List.set_cons_zero, List.set_cons_succ]
        refine wpAnyH_done (by kernel_rfl) ?_ _
        go_wp2_with fail
        go_roundw
        case rel => exact ⟨j + 1, by omega, by go_num, _, _, _, _, S4.out, X4.out, fit_ac HF1.out _⟩
        case measure => simp [intOf]; omega
    · obtain rfl : j = n := by omega
      have HX1 := X1.out.rb.tr
      rw [accL_cells] at HX1
      obtain ⟨At, ct, htv, _, _, Y2, _, _⟩ := own_frow (by decide) HX1
      have htv : t1 = .slice At s1.tl.length ct := htv
      subst htv
      have hlen : s1.tl.length ≤ 1000000 := by have := HF1.out.1.2.2.2; omega
      have HLEN := Lib.hid hlen
      have HY2 : Hid (FRow wr.drew 5 At s1.tl.length (accF s1.tl)) := Lib.hid Y2
      have X6 := Lib.hid (X1.out.kp0 (Kp.refl [] wr).drew)
      have c6 : wr.drew.cell? ⟨gR, 6, none⟩ = some (.slice At s1.tl.length ct) := X6.out.rb.cells.2.2.2.2.2.2
      clear HX1 Y2 X1 hlen S1
      go_upto_region 19 with fail
      refine rg_begin (S := fun w' => w'.cell? ⟨gR, 6, none⟩ = some (.slice At s1.tl.length ct)) 8 #[false, false, false, false, false, false, false, false] (by kernel_rfl) (by kernel_rfl) (by kernel_rfl) ?_ (fun hHeld => ?_)
      · exact c6
      refine rg_take (i := 0) (d := some 89) (l := #[true, false, false, false, false, false, false, false]) (fuel := 7) (v := ?_) rfl (by kernel_rfl) (by kernel_rfl) (by kernel_rfl) (by kernel_rfl) (by kernel_rfl) (fun _ _ _ h => h) (by kernel_rfl) ?_ (by assumption) ?_
      rotate_left 1
      · (intro wS hSw; (try dsimp only at hSw); go_simp; try with_reducible rfl)
      try simp only [Act.put, List.setIfInBounds_toArray, List.set_cons_zero, List.set_cons_succ]
      refine rg_take (i := 2) (d := some 91) (l := #[true, false, true, false, false, false, false, false]) (fuel := 6) (v := ?_) rfl (by kernel_rfl) (by kernel_rfl) (by kernel_rfl) (by kernel_rfl) (by kernel_rfl) (fun _ _ _ h => h) (by kernel_rfl) ?_ (by assumption) ?_
      rotate_left 1
      · (intro wS hSw; (try dsimp only at hSw); go_simp; try with_reducible rfl)
      try simp only [Act.put, List.setIfInBounds_toArray, List.set_cons_zero, List.set_cons_succ]
      refine rg_take (i := 3) (d := some 92) (l := #[true, false, true, true, false, false, false, false]) (fuel := 5) (v := ?_) rfl (by kernel_rfl) (by kernel_rfl) (by kernel_rfl) (by kernel_rfl) (by kernel_rfl) (fun _ _ _ h => h) (by kernel_rfl) ?_ (by assumption) ?_
      rotate_left 1
      · (intro wS hSw; (try dsimp only at hSw); go_simp; try with_reducible rfl)
      try simp only [Act.put, List.setIfInBounds_toArray, List.set_cons_zero, List.set_cons_succ]
      refine rg_take (i := 4) (d := some 93) (l := #[true, false, true, true, true, false, false, false]) (fuel := 4) (v := ?_) rfl (by kernel_rfl) (by kernel_rfl) (by kernel_rfl) (by kernel_rfl) (by kernel_rfl) (fun _ _ _ h => h) (by kernel_rfl) ?_ (by assumption) ?_
      rotate_left 1
      · (intro wS hSw; (try dsimp only at hSw); go_simp; try with_reducible rfl)
      try simp only [Act.put, List.setIfInBounds_toArray, List.set_cons_zero, List.set_cons_succ]
      refine rg_take (i := 5) (d := some 94) (l := #[true, false, true, true, true, true, false, false]) (fuel := 3) (v := ?_) rfl (by kernel_rfl) (by kernel_rfl) (by kernel_rfl) (by kernel_rfl) (by kernel_rfl) (fun _ _ _ h => h) (by kernel_rfl) ?_ (by assumption) ?_
      rotate_left 1
      · (intro wS hSw; (try dsimp only at hSw); go_simp; try with_reducible rfl)
      try simp only [Act.put, List.setIfInBounds_toArray, List.set_cons_zero, List.set_cons_succ]
      refine rg_next (i := 1) (l := #[true, true, true, true, true, true, false, false]) (fuel := 2) (by kernel_rfl) rfl (by kernel_rfl) (by kernel_rfl) (fun K hK => ?_)
      go_simp
      (go_at_call 14)
      refine (btrace_any X6.out.bu HLEN.out).mono ?_
      rintro e u1 ⟨A3, c3, rfl, _, _, y1, _, _, bb⟩
      have HY2' := Lib.hid (FRow.keep HY2.out bb)
      have HY3 := Lib.hid y1
      clear HY2 y1
      have X7 := Lib.hid (X6.out.on bb)
      clear bb c6 X6
      have c6 : u1.cell? ⟨gR, 6, none⟩ = some (.slice At s1.tl.length ct) := X7.out.rb.cells.2.2.2.2.2.2
      first | (refine hK.out _ _ ?_ (fun hHeld => ?_)) | (go_wp2_with fail; refine hK.out _ _ ?_ (fun hHeld => ?_))
      · (try dsimp only); exact c6
      clear hK K
      try simp only [Act.put, List.setIfInBounds_toArray, List.set_cons_zero, List.set_cons_succ]
      refine rg_next (i := 6) (l := #[true, true, true, true, true, true, true, false]) (fuel := 1) (by kernel_rfl) rfl (by kernel_rfl) (by kernel_rfl) (fun K hK => ?_)
      go_simp
      (go_at_call 13)
      refine (rsame_any HY3.out HY2'.out HLEN.out).mono ?_
      rintro e u2 ⟨rfl, bb⟩
      clear HY2' HY3
      have X8 := Lib.hid (X7.out.on bb)
      clear bb c6 X7
      have c6 : u2.cell? ⟨gR, 6, none⟩ = some (.slice At s1.tl.length ct) := X8.out.rb.cells.2.2.2.2.2.2
      first | (refine hK.out _ _ ?_ (fun hHeld => ?_)) | (go_wp2_with fail; refine hK.out _ _ ?_ (fun hHeld => ?_))
      · (try dsimp only); exact c6
      clear hK K
      try simp only [Act.put, List.setIfInBounds_toArray, List.set_cons_zero, List.set_cons_succ]
      refine rg_take (i := 7) (d := some 4) (l := #[true, true, true, true, true, true, true, true]) (fuel := 0) (v := ?_) rfl (by kernel_rfl) (by kernel_rfl) (by kernel_rfl) (by kernel_rfl) (by kernel_rfl) (fun _ _ _ h => h) (by kernel_rfl) ?_ (by assumption) ?_
      rotate_left 1
      · (intro wS hSw; (try dsimp only at hSw); go_simp; try with_reducible rfl)
      try simp only [Act.put, List.setIfInBounds_toArray, List.set_cons_zero, List.set_cons_succ]
      refine wpAnyH_done (by kernel_rfl) ?_ _
      go_wp2_with fail
      go_ret
      exact ⟨rfl, X8.out.rb.old⟩
end Go.Proofs.YtngfmofjonleeaaGreat
