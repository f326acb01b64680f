/-
  Layer 17: live.
-/
import Derived.Test.YtnelcbbjnpaodaaTrn10
namespace Go.Proofs.Ytnelcbbjnpaodaa
open Go.RowKit
set_option linter.unusedVariables false
set_option linter.unusedSimpArgs false
set_option maxRecDepth 100000
def lz1 (i : Nat) : Int := if i = 0 then 1 else 0
def lz2 (i : Nat) : Int := if i = 1 then 1 else 0
def lb2 (j : Nat) : Int := match j with | 0 => 1 | 1 => 0 | 2 => 0 | 3 => -1 | 4 => -1 | 5 => 0 | 6 => 0 | _ => 1
theorem live1 : vArr 8 (bnV (fldV lz1 4)) = #[.int .i64 1, .int .i64 0, .int .i64 1, .int .i64 0, .int .i64 1, .int .i64 0, .int .i64 1, .int .i64 0] ∧ rowE lz1 4 = 0 := ⟨by kernel_rfl, by kernel_rfl⟩
theorem live2 : vArr 8 (bnV (fldV lz2 2)) = #[.int .i64 1, .int .i64 0, .int .i64 0, .int .i64 (-1), .int .i64 (-1), .int .i64 0, .int .i64 0, .int .i64 1] ∧ rowE lz2 2 = 0 := ⟨by kernel_rfl, by kernel_rfl⟩
theorem live3 : iArr .i64 4 (bckV lb2) = #[.int .i64 0, .int .i64 1, .int .i64 0, .int .i64 0] ∧ bckE lb2 = 0 := ⟨by kernel_rfl, by kernel_rfl⟩
theorem live4 : bns (fsm (wrw fun _ => 0) 32) 0 = -992 ∧ bns (fsm (wrw fun _ => 0) 32) 1 = 0 := ⟨by decide +kernel, by decide +kernel⟩
theorem tinfoL2 : (Try.prog.info? 39).map (fun i => (i.zero, i.size)) = some (some (.agg (iArr .u8 32 fun _ => 0)), 32) := by kernel_rfl
theorem tzeroL (w : World) : (zeroValue 39).run Try.prog w = .ok (.agg (iArr .u8 32 fun _ => 0)) w := (zero_of_info tinfoL2).1 w
set_option maxHeartbeats 8000000 in
theorem liveT_any (w : World) : Calls Try.prog 9 #[] w fun e w' => e = .returned (.bool true) ∧ Below w.heap.size w w' := by
  have hI1 : IRow (w.alloc (.cells #[.int .i64 1, .int .i64 0, .int .i64 0, .int .i64 0] 3)) .i64 (some ⟨w.heap.size, 0, none⟩) 4 lz1 := irow_blk (t := 3) (Blk.new w _ _) fun i hi => by unfold lz1; split <;> rfl
  have hB1 : Below w.heap.size w (w.alloc (.cells #[.int .i64 1, .int .i64 0, .int .i64 0, .int .i64 0] 3)) := (Below.refl _ w).alloc (Nat.le_refl _) _
  have HI1 := Lib.hid hI1
  have HB1 := Lib.hid hB1
  clear hI1 hB1
  go_enter Try.func9, Try.ntmps9
  go_wp2_with fail
  generalize World.alloc _ _ = w1 at *
  refine (tof_any HI1.out (by decide)).mono ?_
  rw [live1.1, live1.2]
  rintro e w2 ⟨rfl, b2⟩
  have K1 : Blk (w2.alloc (.cells #[.int .i64 1, .int .i64 0, .int .i64 1, .int .i64 0, .int .i64 1, .int .i64 0, .int .i64 1, .int .i64 0] 29)) w2.heap.size 29 #[.int .i64 1, .int .i64 0, .int .i64 1, .int .i64 0, .int .i64 1, .int .i64 0, .int .i64 1, .int .i64 0] := Blk.new w2 _ _
  have KB : Below w.heap.size w (w2.alloc (.cells #[.int .i64 1, .int .i64 0, .int .i64 1, .int .i64 0, .int .i64 1, .int .i64 0, .int .i64 1, .int .i64 0] 29)) := (HB1.out.trans (b2.mono HB1.out.size)).alloc (Nat.le_trans HB1.out.size b2.size) _
  obtain ⟨ga, hga⟩ : ∃ h, w2.heap.size = h := ⟨_, rfl⟩
  rw [hga] at K1
  have QA := Lib.hid K1
  have QB := Lib.hid KB
  clear K1 KB b2 HI1 HB1
  go_upto_region 2 with fail
  generalize World.alloc _ _ = w3 at *
  clear hga
  have hI2 : IRow (w3.alloc (.cells #[.int .i64 0, .int .i64 1] 3)) .i64 (some ⟨w3.heap.size, 0, none⟩) 2 lz2 := irow_blk (t := 3) (Blk.new w3 _ _) fun i hi => by unfold lz2; split <;> rfl
  have HI2 := Lib.hid hI2
  have QA := Lib.hid (QA.out.alloc (.cells #[.int .i64 0, .int .i64 1] 3))
  have QB := Lib.hid (QB.out.alloc QB.out.size (.cells #[.int .i64 0, .int .i64 1] 3))
  clear hI2
  go_wp2_with fail
  generalize World.alloc _ _ = w4 at *
  refine (tof_any HI2.out (by decide)).mono ?_
  rw [live2.1, live2.2]
  rintro e w5 ⟨rfl, b5⟩
  have K0 : Blk (w5.alloc (.cells #[.int .i64 1, .int .i64 0, .int .i64 0, .int .i64 (-1), .int .i64 (-1), .int .i64 0, .int .i64 0, .int .i64 1] 29)) ga 29 #[.int .i64 1, .int .i64 0, .int .i64 1, .int .i64 0, .int .i64 1, .int .i64 0, .int .i64 1, .int .i64 0] := (QA.out.below b5 QA.out.lt).alloc _
  have K1 : Blk (w5.alloc (.cells #[.int .i64 1, .int .i64 0, .int .i64 0, .int .i64 (-1), .int .i64 (-1), .int .i64 0, .int .i64 0, .int .i64 1] 29)) w5.heap.size 29 #[.int .i64 1, .int .i64 0, .int .i64 0, .int .i64 (-1), .int .i64 (-1), .int .i64 0, .int .i64 0, .int .i64 1] := Blk.new w5 _ _
  have KB : Below w.heap.size w (w5.alloc (.cells #[.int .i64 1, .int .i64 0, .int .i64 0, .int .i64 (-1), .int .i64 (-1), .int .i64 0, .int .i64 0, .int .i64 1] 29)) := (QB.out.trans (b5.mono QB.out.size)).alloc (Nat.le_trans QB.out.size b5.size) _
  obtain ⟨gb, hgb⟩ : ∃ h, w5.heap.size = h := ⟨_, rfl⟩
  rw [hgb] at K1
  have QA := Lib.hid K0
  have QG := Lib.hid K1
  have QB := Lib.hid KB
  clear K0 K1 KB b5 HI2
  go_upto_region 3 with fail
  generalize World.alloc _ _ = w6 at *
  clear hgb
  have K1 := QG.out
  have c0 : w6.cell? ⟨gb, 0, none⟩ = some (.int .i64 (1)) := K1.cell 0
  have c1 : w6.cell? ⟨gb, 1, none⟩ = some (.int .i64 (0)) := K1.cell 1
  have c2 : w6.cell? ⟨gb, 2, none⟩ = some (.int .i64 (0)) := K1.cell 2
  have c3 : w6.cell? ⟨gb, 3, none⟩ = some (.int .i64 (-1)) := K1.cell 3
  have c4 : w6.cell? ⟨gb, 4, none⟩ = some (.int .i64 (-1)) := K1.cell 4
  have c5 : w6.cell? ⟨gb, 5, none⟩ = some (.int .i64 (0)) := K1.cell 5
  have c6 : w6.cell? ⟨gb, 6, none⟩ = some (.int .i64 (0)) := K1.cell 6
  have c7 : w6.cell? ⟨gb, 7, none⟩ = some (.int .i64 (1)) := K1.cell 7
  clear K1
  go_wp2_with fail
  clear c0 c1 c2 c3 c4 c5 c6 c7
  refine (tback_any lb2 (fun j hj => by unfold lb2; split <;> omega) _).mono ?_
  rw [live3.1, live3.2]
  rintro e w7 ⟨rfl, b7⟩
  have K0 : Blk (w7.alloc (.cells #[.int .i64 0, .int .i64 1, .int .i64 0, .int .i64 0] 24)) ga 29 #[.int .i64 1, .int .i64 0, .int .i64 1, .int .i64 0, .int .i64 1, .int .i64 0, .int .i64 1, .int .i64 0] := (QA.out.below b7 QA.out.lt).alloc _
  have K1 : Blk (w7.alloc (.cells #[.int .i64 0, .int .i64 1, .int .i64 0, .int .i64 0] 24)) gb 29 #[.int .i64 1, .int .i64 0, .int .i64 0, .int .i64 (-1), .int .i64 (-1), .int .i64 0, .int .i64 0, .int .i64 1] := (QG.out.below b7 QG.out.lt).alloc _
  have K2 : Blk (w7.alloc (.cells #[.int .i64 0, .int .i64 1, .int .i64 0, .int .i64 0] 24)) w7.heap.size 24 #[.int .i64 0, .int .i64 1, .int .i64 0, .int .i64 0] := Blk.new w7 _ _
  have KB : Below w.heap.size w (w7.alloc (.cells #[.int .i64 0, .int .i64 1, .int .i64 0, .int .i64 0] 24)) := (QB.out.trans (b7.mono QB.out.size)).alloc (Nat.le_trans QB.out.size b7.size) _
  obtain ⟨gc, hgc⟩ : ∃ h, w7.heap.size = h := ⟨_, rfl⟩
  rw [hgc] at K2
  have QA := Lib.hid K0
  have QG := Lib.hid K1
  have QC := Lib.hid K2
  have QB := Lib.hid KB
  clear K0 K1 K2 KB b7
  go_upto_region 4 with fail
  generalize World.alloc _ _ = w8 at *
  clear hgc
  have hzL := tzeroL
  have K0 : Blk (w8.alloc (.cells (iArr .u8 32 fun _ => 0) 39)) ga 29 #[.int .i64 1, .int .i64 0, .int .i64 1, .int .i64 0, .int .i64 1, .int .i64 0, .int .i64 1, .int .i64 0] := QA.out.alloc _
  have K1 : Blk (w8.alloc (.cells (iArr .u8 32 fun _ => 0) 39)) gb 29 #[.int .i64 1, .int .i64 0, .int .i64 0, .int .i64 (-1), .int .i64 (-1), .int .i64 0, .int .i64 0, .int .i64 1] := QG.out.alloc _
  have K2 : Blk (w8.alloc (.cells (iArr .u8 32 fun _ => 0) 39)) gc 24 #[.int .i64 0, .int .i64 1, .int .i64 0, .int .i64 0] := QC.out.alloc _
  have K3 : Blk (w8.alloc (.cells (iArr .u8 32 fun _ => 0) 39)) w8.heap.size 39 (iArr .u8 32 fun _ => 0) := Blk.new w8 _ _
  have KB : Below w.heap.size w (w8.alloc (.cells (iArr .u8 32 fun _ => 0) 39)) := QB.out.alloc QB.out.size _
  obtain ⟨gd, hgd⟩ : ∃ h, w8.heap.size = h := ⟨_, rfl⟩
  rw [hgd] at K3
  have QA := Lib.hid K0
  have QG := Lib.hid K1
  have QC := Lib.hid K2
  have QD := Lib.hid K3
  have QB := Lib.hid KB
  clear K0 K1 K2 K3 KB
  go_upto_region 5 with fail
  generalize World.alloc _ _ = w9 at *
  clear hgd hzL
  have K0 := QA.out
  have K1 := QG.out
  have K2 := QC.out
  have a0 : w9.cell? ⟨ga, 0, none⟩ = some (.int .i64 1) := K0.cell 0
  have b0 : w9.cell? ⟨gb, 0, none⟩ = some (.int .i64 (1)) := K1.cell 0
  have a1 : w9.cell? ⟨ga, 1, none⟩ = some (.int .i64 0) := K0.cell 1
  have b1 : w9.cell? ⟨gb, 1, none⟩ = some (.int .i64 (0)) := K1.cell 1
  have a2 : w9.cell? ⟨ga, 2, none⟩ = some (.int .i64 1) := K0.cell 2
  have b2 : w9.cell? ⟨gb, 2, none⟩ = some (.int .i64 (0)) := K1.cell 2
  have a3 : w9.cell? ⟨ga, 3, none⟩ = some (.int .i64 0) := K0.cell 3
  have b3 : w9.cell? ⟨gb, 3, none⟩ = some (.int .i64 (-1)) := K1.cell 3
  have a4 : w9.cell? ⟨ga, 4, none⟩ = some (.int .i64 1) := K0.cell 4
  have b4 : w9.cell? ⟨gb, 4, none⟩ = some (.int .i64 (-1)) := K1.cell 4
  have a5 : w9.cell? ⟨ga, 5, none⟩ = some (.int .i64 0) := K0.cell 5
  have b5 : w9.cell? ⟨gb, 5, none⟩ = some (.int .i64 (0)) := K1.cell 5
  have a6 : w9.cell? ⟨ga, 6, none⟩ = some (.int .i64 1) := K0.cell 6
  have b6 : w9.cell? ⟨gb, 6, none⟩ = some (.int .i64 (0)) := K1.cell 6
  have a7 : w9.cell? ⟨ga, 7, none⟩ = some (.int .i64 0) := K0.cell 7
  have b7 : w9.cell? ⟨gb, 7, none⟩ = some (.int .i64 (1)) := K1.cell 7
  have e0 : w9.cell? ⟨gc, 0, none⟩ = some (.int .i64 0) := K2.cell 0
  have e1 : w9.cell? ⟨gc, 1, none⟩ = some (.int .i64 1) := K2.cell 1
  have e2 : w9.cell? ⟨gc, 2, none⟩ = some (.int .i64 0) := K2.cell 2
  have e3 : w9.cell? ⟨gc, 3, none⟩ = some (.int .i64 0) := K2.cell 3
  have q1 : ∀ w, (Op.equalIn 10000 29 (.agg #[.int .i64 1, .int .i64 0, .int .i64 1, .int .i64 0, .int .i64 1, .int .i64 0, .int .i64 1, .int .i64 0]) (.agg #[.int .i64 1, .int .i64 0, .int .i64 1, .int .i64 0, .int .i64 1, .int .i64 0, .int .i64 1, .int .i64 0])).run Try.prog w = .ok true w := fun w => teq8 (fun j => if j % 2 = 0 then 1 else 0) (fun j => if j % 2 = 0 then 1 else 0) w
  have q2 : ∀ w, (Op.equalIn 10000 29 (.agg #[.int .i64 1, .int .i64 0, .int .i64 0, .int .i64 (-1), .int .i64 (-1), .int .i64 0, .int .i64 0, .int .i64 1]) (.agg #[.int .i64 1, .int .i64 0, .int .i64 0, .int .i64 (-1), .int .i64 (-1), .int .i64 0, .int .i64 0, .int .i64 1])).run Try.prog w = .ok true w := fun w => teq8 lb2 lb2 w
  have q3 : ∀ w, (Op.equalIn 10000 24 (.agg #[.int .i64 0, .int .i64 1, .int .i64 0, .int .i64 0]) (.agg #[.int .i64 0, .int .i64 1, .int .i64 0, .int .i64 0])).run Try.prog w = .ok true w := fun w => teq4 (fun j => if j = 1 then 1 else 0) (fun j => if j = 1 then 1 else 0) w
  have hL : Hid ((Try.prog.info? 39).map (·.size) = some (iArr .u8 32 fun _ => 0).size) := Lib.hid (by rw [iArr_size]; exact tinfoL)
  clear K0 K1 K2
  go_wp2_with (refine wpList_load_row_want (by kernel_rfl) 39 (.tmp 7) rfl gd (by rfl) 39 (iArr .u8 32 fun _ => 0) (0, 0) _ QD.out Try.underlying39 rfl hL.out ?_)
  refine (twave_any (fun _ => 0) (fun _ => by omega) _).mono ?_
  obtain ⟨l40, l41⟩ := live4
  obtain ⟨r2, hr2⟩ : ∃ r, bns (fsm (wrw fun _ => 0) 32) 2 = r := ⟨_, rfl⟩
  obtain ⟨r3, hr3⟩ : ∃ r, bns (fsm (wrw fun _ => 0) 32) 3 = r := ⟨_, rfl⟩
  obtain ⟨r4, hr4⟩ : ∃ r, bns (fsm (wrw fun _ => 0) 32) 4 = r := ⟨_, rfl⟩
  obtain ⟨r5, hr5⟩ : ∃ r, bns (fsm (wrw fun _ => 0) 32) 5 = r := ⟨_, rfl⟩
  obtain ⟨r6, hr6⟩ : ∃ r, bns (fsm (wrw fun _ => 0) 32) 6 = r := ⟨_, rfl⟩
  obtain ⟨r7, hr7⟩ : ∃ r, bns (fsm (wrw fun _ => 0) 32) 7 = r := ⟨_, rfl⟩
  have hR8 : vArr 8 (bnV (fsm (wrw fun _ => 0) 32)) = #[.int .i64 (-992), .int .i64 0, .int .i64 r2, .int .i64 r3, .int .i64 r4, .int .i64 r5, .int .i64 r6, .int .i64 r7] := by rw [← hr2, ← hr3, ← hr4, ← hr5, ← hr6, ← hr7, ← l40, ← l41]; rfl
  rw [hR8]
  have q4 : ∀ w, (Instr.index 29 (.agg #[.int .i64 (-992), .int .i64 0, .int .i64 r2, .int .i64 r3, .int .i64 r4, .int .i64 r5, .int .i64 r6, .int .i64 r7]) (.int .i64 0)).run Try.prog w = .ok (.agg #[.int .i64 (-992), .int .i64 0]) w := fun w => by
    rw [← hR8]
    have := ix_pair (bnV (fsm (wrw fun _ => 0) 32)) 0 (by decide) w
    rw [show vArr 8 (bnV (fsm (wrw fun _ => 0) 32)) = _ from vArr_eight _]
    rw [show (.int .i64 0 : Value) = .int .i64 ((0 : Nat) : Int) from rfl, this]
    show Result.ok (Value.agg #[.int .i64 (bns (fsm (wrw fun _ => 0) 32) 0), .int .i64 (bns (fsm (wrw fun _ => 0) 32) 1)]) w = _
    rw [l40, l41]; rfl
  have q5 : ∀ w, (Op.equalIn 10000 28 (.agg #[.int .i64 (-992), .int .i64 0]) (.agg #[.int .i64 (-992), .int .i64 0])).run Try.prog w = .ok true w := fun w => run_eql_ints (n := 2) Try.underlying28 Try.underlying3 (by kernel_rfl) (by kernel_rfl) 9998 (fun j => if j = 0 then -992 else 0) (fun j => if j = 0 then -992 else 0) w
  rintro e wa ⟨rfl, ba⟩
  have QB := Lib.hid (QB.out.trans (ba.mono QB.out.size))
  clear ba l40 l41 hR8 hr2 hr3 hr4 hr5 hr6 hr7
  go_wp2_with fail
  go_ret
  exact ⟨rfl, QB.out⟩
end Go.Proofs.Ytnelcbbjnpaodaa
