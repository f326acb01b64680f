/-
  Texts of these proofs, one behind the other: Tm6, Tm7.
-/
import Derived.Test.YtmbbcfdeielopaaDoorRRRRKTK21
import Derived.Test.YtmbbcfdeielopaaDoorRRRRKTK25
import Derived.Test.YtmbbcfdeielopaaDoorRRRRKTK10
import Derived.Laws.CopyOwn
namespace Go.Proofs.YtmbbcfdeielopaaDoorRRRR
open Go.RowKit
set_option linter.unusedVariables false
set_option linter.unusedSimpArgs false
set_option maxRecDepth 100000
set_option maxHeartbeats 8000000
theorem tmA_ok : ∀ b : Fin 256, ∀ T D K : Bool, (tmA (opN b.val) (opM b.val) T D K).all okL = true ∧ (tmA (opN b.val) (opM b.val) T D K).length ≤ 20 ∧ (tmB (opM b.val)).all okL = true ∧ (tmB (opM b.val)).length ≤ 6 ∧ 3 ≤ (opN b.val).length ∧ opM b.val < 20 := by decide +kernel
theorem repL_eq : ∀ (l : List UInt8) (n : Nat), Lib.repeatL l n = repL l n
  | l, 0 => rfl
  | l, n + 1 => by simp only [Lib.repeatL, repL_eq l n, repL, List.replicate_succ, List.flatten_cons]
theorem repL_len (l : List UInt8) (n : Nat) : (repL l n).length = n * l.length := by rw [← repL_eq, Lib.repeatL_length]
theorem tmMv_bd (m : Nat) (n : Int) : tmMv m n ≤ 65536 := by unfold tmMv; split <;> omega
theorem own_mono {w : World} {base base' e size n : Nat} {v : Value} {xs : List Value} (h : w.ownsRow base e size v n xs) (hb : base' ≤ base) : w.ownsRow base' e size v n xs :=
  ⟨h.1, h.2.imp id fun ⟨g, cap, cur, he, hg, rest⟩ => ⟨g, cap, cur, he, Nat.le_trans hb hg, rest⟩⟩
theorem op_store {w : World} {g : Nat} {cs : Array Value} (h : Blk w g 51 cs) (hs : cs.size = 4) (S : ByteArray) (m z y : Int) : (storeCells ⟨g, 0, none⟩ (opA S m z y).toList).run Tryd.prog w = .ok () (w.setRow g (opA S m z y)) :=
  h.run_store (opA S m z y) (by rw [hs]; rfl) (fun v hv => by simp [opA] at hv; rcases hv with rfl | rfl | rfl | rfl <;> rfl)
theorem tlist_any (b : Nat) (hb : b < 256) (T D K : Bool) (n : Int) (w : World) :
    Calls Tryd.prog 7 #[.int .u8 (b : Int), .agg (fcA T D K n)] w fun e w' => ∃ v, e = .returned v ∧ w'.ownsRow w.heap.size 5 1 v (tmL b T D K n).length (kdV (tmL b T D K n)) ∧ Below w.heap.size w w' := by
  obtain ⟨ok1, ln1, ok2, ln2, ok3, ok4⟩ := tmA_ok ⟨b, hb⟩ T D K
  dsimp only at ok1 ln1 ok2 ln2 ok3 ok4
  have hmv := tmMv_bd (opM b) n
  have hof := fun W => oof_any b hb W
  rw [show opV b = .agg (opA (mkS (opN b)) (opM b : Int) (opZ b) (opY b : Int)) from rfl] at hof
  have hrow := fun W => trow_any (opN b) (opM b) ok4 ok3 (opZ b) (opY b : Int) T D K n W
  have hmo := fun W => tmoved_any (mkS (opN b)) (opM b) (opZ b) (opY b : Int) T D K n W
  obtain ⟨q, hq⟩ : ∃ q, tmMv (opM b) n = q := ⟨_, rfl⟩
  have hrp := fun W => sh_strings_Repeat ⟨#[68, 76, 68, 68, 83, 68]⟩ q W (by omega) (by show 6 * q ≤ _; omega)
  obtain ⟨A, hA⟩ : ∃ A, mkS (tmA (opN b) (opM b) T D K) = A := ⟨_, rfl⟩
  obtain ⟨R, hR⟩ : ∃ R, (⟨(Lib.repeatL (⟨#[68, 76, 68, 68, 83, 68]⟩ : ByteArray).data.toList q).toArray⟩ : ByteArray) = R := ⟨_, rfl⟩
  obtain ⟨B, hB⟩ : ∃ B, mkS (tmB (opM b)) = B := ⟨_, rfl⟩
  have hAl : A.data.toList = tmA (opN b) (opM b) T D K := by rw [← hA]; rfl
  have hRl : R.data.toList = repL [68, 76, 68, 68, 83, 68] q := by rw [← hR, ← repL_eq]
  have hBl : B.data.toList = tmB (opM b) := by rw [← hB]; rfl
  have hfl : ([A, R, B].map (·.data.toList)).flatten = tmL b T D K n := by
    simp only [List.map_cons, List.map_nil, List.flatten_cons, List.flatten_nil, hAl, hRl, hBl, tmL, hq, List.append_nil, List.append_assoc]
  have hsz : ([A, R, B].map (·.size)).sum ≤ 1000000 := by
    rw [← flat_len, hfl]
    unfold tmL
    rw [List.length_append, List.length_append, repL_len, hq]
    simp only [List.length_cons, List.length_nil]
    omega
  have hok : ∀ c ∈ ([A, R, B].map (·.data.toList)).flatten, okL c = true := by
    rw [hfl]
    intro c hc
    unfold tmL at hc
    simp only [List.mem_append] at hc
    rcases hc with (hc | hc) | hc
    · exact List.all_eq_true.1 ok1 c hc
    · simp only [repL, List.mem_flatten, List.mem_replicate] at hc
      obtain ⟨l, ⟨_, rfl⟩, hc⟩ := hc
      exact List.all_eq_true.1 (show ([68, 76, 68, 68, 83, 68] : List UInt8).all okL = true by decide) c hc
    · exact List.all_eq_true.1 ok2 c hc
  have hkd := fun (g : Nat) (W : World) (h : Blk W g 9 ([A, R, B].map Value.string).toArray) => tkinds_any g 3 [A, R, B] W h (by simp) hsz hok
  rw [hfl] at hkd
  rw [hR] at hrp
  rw [hA, hB] at hrow
  rw [hq] at hmo hmv
  obtain ⟨S, hS⟩ : ∃ S, mkS (opN b) = S := ⟨_, rfl⟩
  obtain ⟨m, hm⟩ : ∃ m : Int, (opM b : Int) = m := ⟨_, rfl⟩
  obtain ⟨z, hz⟩ : ∃ z, opZ b = z := ⟨_, rfl⟩
  obtain ⟨y, hy⟩ : ∃ y : Int, (opY b : Int) = y := ⟨_, rfl⟩
  rw [hS, hm, hz, hy] at hof hrow hmo
  obtain ⟨L, hL⟩ : ∃ L, tmL b T D K n = L := ⟨_, rfl⟩
  rw [hL] at hkd ⊢
  have HKD := Lib.hid hkd
  clear ok1 ln1 ok2 ln2 ok3 ok4 hA hR hB hAl hRl hBl hfl hsz hok hq hS hm hz hy hL hkd hb
  have hone : (opA S m z y).size = 4 := rfl
  have HS4 : Hid ((Tryd.prog.info? 51).map (·.size) = some (opA S m z y).size) := Lib.hid (by rw [hone]; kernel_rfl)
  have HF4 : Hid ((Tryd.prog.info? 23).map (·.size) = some (fcA T D K n).size) := Lib.hid (by kernel_rfl)
  clear hone
  have HB0 : Hid (Below w.heap.size w (w.alloc (.cells (fcA T D K n) 23))) := Lib.hid ((Below.refl _ w).alloc (Nat.le_refl _) _)
  have K0 : Hid (Blk (w.alloc (.cells (fcA T D K n) 23)) w.heap.size 23 (fcA T D K n)) := Lib.hid (Blk.new w _ _)
  obtain ⟨w1, hw1⟩ : ∃ w1, w.alloc (.cells (fcA T D K n) 23) = w1 := ⟨_, rfl⟩
  rw [hw1] at HB0 K0
  have HW1 := Lib.hid hw1
  clear hw1
  go_enter Tryd.func7, Tryd.ntmps7
  go_upto_region 1 with fail
  rw [HW1.out]
  go_wp2_with fail
  refine (hof _).mono ?_
  rintro e w2 ⟨rfl, hb2⟩
  have K02 := Lib.hid (K0.out.below hb2 K0.out.lt)
  have HB2 := Lib.hid (HB0.out.trans (hb2.mono HB0.out.size))
  have z2 := HB2.out.size
  clear hb2 hof
  have k1 : Blk (w2.alloc (.cells #[.string ⟨#[]⟩, .int .u8 0, .int .i64 0, .int .i64 0] 51)) w2.heap.size 51 #[.string ⟨#[]⟩, .int .u8 0, .int .i64 0, .int .i64 0] := Blk.new w2 _ _
  have hst := op_store k1 rfl S m z y
  have K3 := Lib.hid (k1.row (opA S m z y))
  have K03 := Lib.hid ((K02.out.alloc (.cells #[.string ⟨#[]⟩, .int .u8 0, .int .i64 0, .int .i64 0] 51)).rowFar (k := w2.heap.size) (Nat.ne_of_lt K02.out.lt) (opA S m z y))
  have HB3 := Lib.hid (below_setRow (HB2.out.alloc z2 (.cells #[.string ⟨#[]⟩, .int .u8 0, .int .i64 0, .int .i64 0] 51)) z2 (opA S m z y))
  obtain ⟨w3, hw3⟩ : ∃ w3, (w2.alloc (.cells #[.string ⟨#[]⟩, .int .u8 0, .int .i64 0, .int .i64 0] 51)).setRow w2.heap.size (opA S m z y) = w3 := ⟨_, rfl⟩
  rw [hw3] at hst K3 K03 HB3
  clear k1 hw3
  obtain ⟨h, hh⟩ : ∃ h, w2.heap.size = h := ⟨_, rfl⟩
  have k3 : Blk w3 h 51 (opA S m z y) := by rw [← hh]; exact K3.out
  have k03 := K03.out
  clear K3
  have K3 := Lib.hid k3
  rw [hh] at hst
  go_upto_region 2 with fail
  have HH := Lib.hid hh
  clear hst hh
  go_wp2_with (first
    | (refine wpList_load_row rfl 51 (.tmp 5) rfl h (by rfl) 51 (opA S m z y) (0, 0) _ k3 Tryd.underlying51 rfl HS4.out ?_)
    | (refine wpList_load_row rfl 23 (.tmp 3) rfl w.heap.size (by rfl) 23 (fcA T D K n) (0, 0) _ k03 Tryd.underlying23 rfl HF4.out ?_))
  refine (hrow _).mono ?_
  rintro e w4 ⟨rfl, hb4⟩
  have k4 := K3.out.below hb4 K3.out.lt
  have k04 := K03.out.below hb4 K03.out.lt
  have HB4 := Lib.hid (HB3.out.trans (hb4.mono HB3.out.size))
  clear hb4 hrow k3 k03 K3 K03
  go_wp2_with (first
    | (refine wpList_load_row rfl 51 (.tmp 5) rfl h (by rfl) 51 (opA S m z y) (0, 0) _ k4 Tryd.underlying51 rfl HS4.out ?_)
    | (refine wpList_load_row rfl 23 (.tmp 3) rfl w.heap.size (by rfl) 23 (fcA T D K n) (0, 0) _ k04 Tryd.underlying23 rfl HF4.out ?_))
  refine (hmo _).mono ?_
  rintro e w5 ⟨rfl, hb5⟩
  have HB5 := Lib.hid (HB4.out.trans (hb5.mono HB4.out.size))
  clear hb5 hmo k4 k04
  go_wp2_with fail
  refine (hrp _).mono ?_
  rintro e w6 ⟨rfl, hb6⟩
  have HB6 := Lib.hid (HB5.out.trans (hb6.mono HB5.out.size))
  clear hb6 hrp
  go_wp2_with fail
  refine (HKD.out _ _ (Blk.new_ (by simp))).mono ?_
  rintro e w7 ⟨v, rfl, hv, hb7⟩
  have hB7 : Below w6.heap.size w6 w7 := ((Below.refl _ w6).alloc (Nat.le_refl _) _).trans (hb7.mono (by simp))
  have HV := Lib.hid hv
  have HB7 := Lib.hid (HB6.out.trans (hB7.mono HB6.out.size))
  have z6 := HB6.out.size
  clear hv hb7 hB7
  go_wp2_with fail
  go_ret
  exact ⟨_, rfl, own_mono HV.out (by simp; omega), HB7.out⟩
end Go.Proofs.YtmbbcfdeielopaaDoorRRRR
namespace Go.Proofs.YtmbbcfdeielopaaDoorRRRR
open Go.RowKit
set_option linter.unusedVariables false
set_option linter.unusedSimpArgs false
set_option maxRecDepth 100000
set_option maxHeartbeats 8000000
theorem tmL_len (b : Nat) (T D K : Bool) (n : Int) : (tmL b T D K n).length = (tmA (opN b) (opM b) T D K).length + 6 * tmMv (opM b) n + (tmB (opM b)).length := by
  unfold tmL
  rw [List.length_append, List.length_append, repL_len]
  simp only [List.length_cons, List.length_nil]
  omega
theorem tcount_any (b : Nat) (hb : b < 256) (T D K : Bool) (n : Int) (w : World) :
    Calls Tryd.prog 9 #[.int .u8 (b : Int), .agg (fcA T D K n)] w fun e w' => e = .returned (.int .i64 ((tmL b T D K n).length : Int)) ∧ Below w.heap.size w w' := by
  obtain ⟨ok1, ln1, ok2, ln2, ok3, ok4⟩ := tmA_ok ⟨b, hb⟩ T D K
  dsimp only at ok1 ln1 ok2 ln2 ok3 ok4
  have hmv := tmMv_bd (opM b) n
  have hof := fun W => oof_any b hb W
  rw [show opV b = .agg (opA (mkS (opN b)) (opM b : Int) (opZ b) (opY b : Int)) from rfl] at hof
  have hrow := fun W => trow_any (opN b) (opM b) ok4 ok3 (opZ b) (opY b : Int) T D K n W
  have hmo := fun W => tmoved_any (mkS (opN b)) (opM b) (opZ b) (opY b : Int) T D K n W
  obtain ⟨q, hq⟩ : ∃ q, tmMv (opM b) n = q := ⟨_, rfl⟩
  have hlen := tmL_len b T D K n
  obtain ⟨A, hA⟩ : ∃ A, mkS (tmA (opN b) (opM b) T D K) = A := ⟨_, rfl⟩
  obtain ⟨B, hB⟩ : ∃ B, mkS (tmB (opM b)) = B := ⟨_, rfl⟩
  have hAl : A.size = (tmA (opN b) (opM b) T D K).length := by rw [← hA, mkS_size]
  have hBl : B.size = (tmB (opM b)).length := by rw [← hB, mkS_size]
  rw [← hAl] at hlen ln1
  rw [← hBl] at hlen ln2
  rw [hA, hB] at hrow
  rw [hq] at hmo hmv hlen
  obtain ⟨S, hS⟩ : ∃ S, mkS (opN b) = S := ⟨_, rfl⟩
  obtain ⟨m, hm⟩ : ∃ m : Int, (opM b : Int) = m := ⟨_, rfl⟩
  obtain ⟨z, hz⟩ : ∃ z, opZ b = z := ⟨_, rfl⟩
  obtain ⟨y, hy⟩ : ∃ y : Int, (opY b : Int) = y := ⟨_, rfl⟩
  rw [hS, hm, hz, hy] at hof hrow hmo
  obtain ⟨L, hL⟩ : ∃ L, (tmL b T D K n).length = L := ⟨_, rfl⟩
  rw [hL] at hlen ⊢
  have HL := Lib.hid hlen
  have hq0 : (0 : Int) ≤ q := by omega
  have hq1 : (q : Int) ≤ 65536 := by omega
  clear ok1 ok2 ok3 ok4 hA hB hAl hBl hq hS hm hz hy hL hb hlen
  have hone : (opA S m z y).size = 4 := rfl
  have HS4 : Hid ((Tryd.prog.info? 51).map (·.size) = some (opA S m z y).size) := Lib.hid (by rw [hone]; kernel_rfl)
  have HF4 : Hid ((Tryd.prog.info? 23).map (·.size) = some (fcA T D K n).size) := Lib.hid (by kernel_rfl)
  clear hone
  have HB0 : Hid (Below w.heap.size w (w.alloc (.cells (fcA T D K n) 23))) := Lib.hid ((Below.refl _ w).alloc (Nat.le_refl _) _)
  have K0 : Hid (Blk (w.alloc (.cells (fcA T D K n) 23)) w.heap.size 23 (fcA T D K n)) := Lib.hid (Blk.new w _ _)
  obtain ⟨w1, hw1⟩ : ∃ w1, w.alloc (.cells (fcA T D K n) 23) = w1 := ⟨_, rfl⟩
  rw [hw1] at HB0 K0
  have HW1 := Lib.hid hw1
  clear hw1
  go_enter Tryd.func9, Tryd.ntmps9
  go_upto_region 1 with fail
  rw [HW1.out]
  go_wp2_with fail
  refine (hof _).mono ?_
  rintro e w2 ⟨rfl, hb2⟩
  have K02 := Lib.hid (K0.out.below hb2 K0.out.lt)
  have HB2 := Lib.hid (HB0.out.trans (hb2.mono HB0.out.size))
  have z2 := HB2.out.size
  clear hb2 hof
  have k1 : Blk (w2.alloc (.cells #[.string ⟨#[]⟩, .int .u8 0, .int .i64 0, .int .i64 0] 51)) w2.heap.size 51 #[.string ⟨#[]⟩, .int .u8 0, .int .i64 0, .int .i64 0] := Blk.new w2 _ _
  have hst := op_store k1 rfl S m z y
  have K3 := Lib.hid (k1.row (opA S m z y))
  have K03 := Lib.hid ((K02.out.alloc (.cells #[.string ⟨#[]⟩, .int .u8 0, .int .i64 0, .int .i64 0] 51)).rowFar (k := w2.heap.size) (Nat.ne_of_lt K02.out.lt) (opA S m z y))
  have HB3 := Lib.hid (below_setRow (HB2.out.alloc z2 (.cells #[.string ⟨#[]⟩, .int .u8 0, .int .i64 0, .int .i64 0] 51)) z2 (opA S m z y))
  obtain ⟨w3, hw3⟩ : ∃ w3, (w2.alloc (.cells #[.string ⟨#[]⟩, .int .u8 0, .int .i64 0, .int .i64 0] 51)).setRow w2.heap.size (opA S m z y) = w3 := ⟨_, rfl⟩
  rw [hw3] at hst K3 K03 HB3
  clear k1 hw3
  obtain ⟨h, hh⟩ : ∃ h, w2.heap.size = h := ⟨_, rfl⟩
  have k3 : Blk w3 h 51 (opA S m z y) := by rw [← hh]; exact K3.out
  have k03 := K03.out
  clear K3
  have K3 := Lib.hid k3
  rw [hh] at hst
  go_upto_region 2 with fail
  have HH := Lib.hid hh
  clear hst hh
  go_wp2_with (first
    | (refine wpList_load_row rfl 51 (.tmp 5) rfl h (by rfl) 51 (opA S m z y) (0, 0) _ k3 Tryd.underlying51 rfl HS4.out ?_)
    | (refine wpList_load_row rfl 23 (.tmp 3) rfl w.heap.size (by rfl) 23 (fcA T D K n) (0, 0) _ k03 Tryd.underlying23 rfl HF4.out ?_))
  refine (hrow _).mono ?_
  rintro e w4 ⟨rfl, hb4⟩
  have k4 := K3.out.below hb4 K3.out.lt
  have k04 := K03.out.below hb4 K03.out.lt
  have HB4 := Lib.hid (HB3.out.trans (hb4.mono HB3.out.size))
  clear hb4 hrow k3 k03 K3 K03
  go_wp2_with (first
    | (refine wpList_load_row rfl 51 (.tmp 5) rfl h (by rfl) 51 (opA S m z y) (0, 0) _ k4 Tryd.underlying51 rfl HS4.out ?_)
    | (refine wpList_load_row rfl 23 (.tmp 3) rfl w.heap.size (by rfl) 23 (fcA T D K n) (0, 0) _ k04 Tryd.underlying23 rfl HF4.out ?_))
  refine (hmo _).mono ?_
  rintro e w5 ⟨rfl, hb5⟩
  have HB5 := Lib.hid (HB4.out.trans (hb5.mono HB4.out.size))
  clear hb5 hmo k4 k04
  go_wp2_with fail
  go_ret
  refine ⟨?_, HB5.out⟩
  have e1 := HL.out
  show Ending.returned (.int .i64 ((A.size : Int) + 6 * (q : Int) + (B.size : Int))) = _
  rw [show (A.size : Int) + 6 * (q : Int) + (B.size : Int) = (L : Int) by omega]
end Go.Proofs.YtmbbcfdeielopaaDoorRRRR
