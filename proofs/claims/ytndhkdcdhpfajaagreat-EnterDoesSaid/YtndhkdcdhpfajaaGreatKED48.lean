/-
  Texts of these proofs, one behind the other: Ent7, Rpl1.
-/
import Derived.Test.YtndhkdcdhpfajaaGreatKED12
import Derived.Test.YtndhkdcdhpfajaaGreatKED47
import Derived.Test.YtndhkdcdhpfajaaGreatKED43
import Derived.Test.YtndhkdcdhpfajaaGreatKED46
import Derived.Test.YtndhkdcdhpfajaaGreatKED03
import Derived.Deep.Cut
import Derived.Test.YtndhkdcdhpfajaaGreatKED11
import Derived.Laws.CopyOwn
import Derived.Deep.RegionHeld3
namespace Go.Proofs.YtndhkdcdhpfajaaGreat
open Go.RowKit
set_option linter.unusedVariables false
set_option linter.unusedSimpArgs false
set_option maxRecDepth 100000
set_option maxHeartbeats 8000000
theorem esp_info : (Tryz.prog.info? 70).map (fun i => (i.zero, i.size, i.bytes)) = some (some (.agg #[.int .u8 0, .int .u16 0, .bool false, .int .u8 0]), 4, 6) := by kernel_rfl
def rdSp (kd : Int) (l : List Int) : List Sp := l.map fun a => ⟨kd, a, false, 0⟩
theorem rdSp_snoc (kd : Int) (l : List Int) (a : Int) : rdSp kd (l ++ [a]) = rdSp kd l ++ [⟨kd, a, false, 0⟩] := by simp [rdSp]
theorem ereading_any (kd : Int) (g n c : Nat) (l : List Int) (w : World) (hl : l.length = n) (hn : n ≤ 1000) (hb : Blk w g 29 (l.map (Value.int .u16)).toArray) :
  Calls Tryz.prog 84 #[.int .u8 kd, .slice (some ⟨g, 0, none⟩) n c] w fun e w' => ∃ v, e = .returned v ∧ w'.ownsRow w.heap.size 70 4 v n (spL (rdSp kd l)) ∧ Below w.heap.size w w' := by
 have KB := Lib.hid hb
 have HL := Lib.hid hl
 clear hb hl
 go_enter Tryz.func84, Tryz.ntmps84
 go_wp2
 go_loopw [5, 10] (fun v i wr => ∃ j : Nat, j ≤ n ∧ i = .int .i64 j ∧ wr.ownsRow w.heap.size 70 4 v j (spL (rdSp kd (l.take j))) ∧ Below w.heap.size w wr) (fun _ i _ => n - (intOf i).toNat)
 case atStart => exact ⟨0, by omega, rfl, World.ownsRow_nil _ _ _ _, Below.refl _ w⟩
 case round =>
  obtain ⟨j, hj, rfl, own, hB⟩ := hrel
  have OWN := Lib.hid own
  have HB := Lib.hid hB
  clear own hB
  by_cases hlt : j < n
  ·obtain ⟨a, ha⟩ : ∃ a, l[j]? = some a := ⟨l[j]'(by rw [HL.out]; exact hlt), List.getElem?_eq_getElem _⟩
   have hc : wr.cell? ⟨g, j, none⟩ = some (.int .u16 a) := by
    rw [HB.out.cell (p := ⟨g, j, none⟩) KB.out.lt, KB.out.cell j]; simp [ha]
   have htk : spL (rdSp kd (l.take (j + 1))) = spL (rdSp kd (l.take j)) ++ spL [⟨kd, a, false, 0⟩] := by
    rw [List.take_add_one, ha, ← spL_app, ← rdSp_snoc]; rfl
   have HTK := Lib.hid htk
   clear ha htk
   obtain ⟨v', w', hrun, own', gb⟩ := more_sp (P := Tryz.prog) (t := 67) (e := 70) (ty := 67) (c := 1) (m := 1) Tryz.underlying67 esp_info OWN.out [⟨kd, a, false, 0⟩] #[.int .u8 kd, .int .u16 a, .bool false, .int .u8 0] rfl rfl (by omega) HB.out.size
   have HW : Hid (w'.ownsRow w.heap.size 70 4 v' (j + 1) (spL (rdSp kd (l.take (j + 1))))) := Lib.hid (by rw [HTK.out]; exact own')
   have z5 := HB.out.size
   have HB6 := Lib.hid ((HB.out.alloc z5 (.cells #[.int .u8 kd, .int .u16 a, .bool false, .int .u8 0] 70)).grown gb (by simp; omega) (fun i h => (OWN.out.lt i h).1))
   clear own' gb z5
   go_wp2_with (at_builtin; refine wpList_append_run rfl (.tmp 14) (.tmp 18) 67 rfl rfl rfl hrun ?_)
   go_roundw
   case rel => exact ⟨j + 1, by omega, by go_num, HW.out, HB6.out⟩
   case measure => simp [intOf]; omega
  ·obtain rfl : j = n := by omega
   have own := OWN.out
   rw [List.take_of_length_le (by rw [HL.out]; exact Nat.le_refl _)] at own
   have OWN2 := Lib.hid own
   clear own
   go_wp2_with fail
   go_ret
   exact ⟨_, rfl, OWN2.out, HB.out⟩
end Go.Proofs.YtndhkdcdhpfajaaGreat
namespace Go.Proofs.YtndhkdcdhpfajaaGreat
open Go.RowKit
set_option linter.unusedVariables false
set_option linter.unusedSimpArgs false
set_option maxRecDepth 100000
set_option maxHeartbeats 8000000
theorem rsp_info : (Tryz.prog.info? 147).map (fun i => (i.zero, i.size, i.bytes)) = some (some (.agg #[.int .u8 0, .int .u16 0, .bool false, .int .u8 0]), 4, 6) := by kernel_rfl
theorem rplan_no (k : Nat) (r : Nat → Int) (hk : ¬ (1 ≤ k ∧ k ≤ 5)) (w : World) : Calls Tryz.prog 53 #[.int .u8 (k : Int), .agg (stA r)] w fun e w' => e = .returned (.slice none 0 0) ∧ Below w.heap.size w w' := by
 by_cases h1 : k < 1
 ·have e1 : (k : Int) < 1 := by omega
  clear hk h1
  go_enter Tryz.func53, Tryz.ntmps53
  go_wp2_with fail
  go_ret
  exact ⟨rfl, (Below.refl _ w).alloc (Nat.le_refl _) _⟩
 ·have e1 : ¬ (k : Int) < 1 := by omega
  have e5 : (5 : Int) < k := by omega
  clear hk h1
  go_enter Tryz.func53, Tryz.ntmps53
  go_wp2_with fail
  go_ret
  exact ⟨rfl, (Below.refl _ w).alloc (Nat.le_refl _) _⟩
theorem own_set {w : World} {base e size n : Nat} {v : Value} {xs : List Value} (h : w.ownsRow base e size v n xs) {p : Addr} (u : Value) (hp : v.ownBlock ≠ some p.block) : (w.setCell p u).ownsRow base e size v n xs := by
 refine ⟨h.1, ?_⟩
 rcases h.2 with hn | ⟨g, cap, cur, rfl, hg, hgg, rest⟩
 ·exact .inl hn
 ·exact .inr ⟨g, cap, cur, rfl, hg, (Below.heap_setCell _ _ _ _ (fun e => hp (by rw [← e]; rfl))).trans hgg, rest⟩
theorem rpl_cells {w : World} {g : Nat} {r : Nat → Int} (h : Blk w g 32 (stA r)) : w.cell? ⟨g, 5, none⟩ = some (.int .u16 (r 5)) ∧ w.cell? ⟨g, 4, none⟩ = some (.int .u8 (r 4)) := ⟨h.cell 5, h.cell 4⟩
theorem rplan_yes (k : Nat) (r : Nat → Int) (hr : StOk r) (hk : 1 ≤ k ∧ k ≤ 5) (w : World) :
  Calls Tryz.prog 53 #[.int .u8 (k : Int), .agg (stA r)] w fun e w' => ∃ v, e = .returned v ∧ w'.ownsRow w.heap.size 147 4 v 8 (spL (plL k r (rwith (rwith (r 4) 5 false) 4 false))) ∧ Below w.heap.size w w' := by
 obtain ⟨k1, k5⟩ := hk
 have p5 := hr 5 (by omega)
 have p4 := hr 4 (by omega)
 have p3 := hr 3 (by omega)
 have q5 : 0 ≤ r 5 ∧ r 5 ≤ 65535 := p5
 have q4 : 0 ≤ r 4 ∧ r 4 ≤ 255 := p4
 have q3 : 0 ≤ r 3 ∧ r 3 ≤ 255 := p3
 obtain ⟨a5, b5⟩ := q5
 obtain ⟨a4, b4⟩ := q4
 obtain ⟨a3, b3⟩ := q3
 obtain ⟨A, hA⟩ : ∃ A, goAt k = A := ⟨_, rfl⟩
 have hA1 : 65536 - 2 * (k : Int) = A := hA
 have A0 : 0 ≤ A := by omega
 have A1 : A + 1 ≤ 65535 := by omega
 have k1' : (1 : Int) ≤ k := by omega
 have k5' : (k : Int) ≤ 5 := by omega
 have e1 : ¬ (k : Int) < 1 := by omega
 have e5 : ¬ (5 : Int) < k := by omega
 obtain ⟨d2, hd2⟩ : ∃ d2, rwith (rwith (r 4) 5 false) 4 false = d2 := ⟨_, rfl⟩
 have hps := fun W => rfpushed_any (p := r 4) (w := W) a4 b4 false
 rw [hd2] at hps ⊢
 have hat : 65534 - 2 * ((k : Int) - 1) = A := by omega
 have HA := Lib.hid hA
 have K0 : Hid (Blk (w.alloc (.cells (stA r) 32)) w.heap.size 32 (stA r)) := Lib.hid (Blk.new w _ _)
 have HB0 : Hid (Below w.heap.size w (w.alloc (.cells (stA r) 32))) := Lib.hid ((Below.refl _ w).alloc (Nat.le_refl _) _)
 obtain ⟨g, hg⟩ : ∃ g, w.heap.size = g := ⟨_, rfl⟩
 obtain ⟨w1, hw1⟩ : ∃ w1, w.alloc (.cells (stA r) 32) = w1 := ⟨_, rfl⟩
 rw [hw1] at K0 HB0
 have HW1 := Lib.hid hw1
 have HG := Lib.hid hg
 have K1 : Hid (Blk w1 g 32 (stA r)) := Lib.hid (hg ▸ K0.out)
 clear hw1 hA hA1 p5 p4 p3 hr k1 k5 K0
 go_enter Tryz.func53, Tryz.ntmps53
 go_upto_region 1 with fail
 rw [HW1.out]
 clear HW1
 go_wp2_with fail
 go_cut [6] from 6 to 33 (fun s6 wx => ∃ g4, s6 = .pointer (some ⟨g4, 0, none⟩) ∧ Blk wx g4 197 #[.int .u8 (r 5 / 256), .int .u8 (r 5 % 256), .int .u8 d2] ∧ Blk wx g 32 (stA r) ∧ Below w.heap.size w wx ∧ w.heap.size ≤ g4)
 case first =>
  have x1 : Int.tdiv (r 5) 256 = r 5 / 256 := Int.tdiv_eq_ediv_of_nonneg a5
  have x2 : Int.tmod (r 5) 256 = r 5 % 256 := Int.tmod_eq_emod_of_nonneg a5
  obtain ⟨D0, hD0⟩ : ∃ D0, r 5 / 256 = D0 := ⟨_, rfl⟩
  obtain ⟨D1, hD1⟩ : ∃ D1, r 5 % 256 = D1 := ⟨_, rfl⟩
  have y0 : 0 ≤ D0 ∧ D0 ≤ 255 := by omega
  have y1 : 0 ≤ D1 ∧ D1 ≤ 255 := by omega
  have u1 : IntKind.u16.wrap D0 = D0 := by simp [IntKind.wrap, IntKind.signed, IntKind.bits]; omega
  have u2 : IntKind.u8.wrap D0 = D0 := by simp [IntKind.wrap, IntKind.signed, IntKind.bits]; omega
  have u3 : IntKind.u16.wrap D1 = D1 := by simp [IntKind.wrap, IntKind.signed, IntKind.bits]; omega
  have u4 : IntKind.u8.wrap D1 = D1 := by simp [IntKind.wrap, IntKind.signed, IntKind.bits]; omega
  rw [hD0] at x1
  rw [hD1] at x2
  have HD0 := Lib.hid hD0
  have HD1 := Lib.hid hD1
  obtain ⟨s5, s4⟩ := rpl_cells K1.out
  clear hD0 hD1 y0 y1
  refine rg_begin (S := fun w' => w'.cell? ⟨g, 5, none⟩ = some (.int .u16 (r 5)) ∧ w'.cell? ⟨g, 4, none⟩ = some (.int .u8 (r 4))) 14 #[false, false, false, false, false, false, false, false, false, false, false, false, false, false] (by kernel_rfl) (by kernel_rfl) (by kernel_rfl) ?_ (fun hHeld => ?_)
  ·exact rpl_cells K1.out.drew_
  refine rgu 0 (some 21) rfl ?_
  refine rgu 1 (some 22) rfl ?_
  refine rgu 2 (some 23) rfl ?_
  refine rgu 3 (some 24) rfl ?_
  refine rgu 4 (some 25) rfl ?_
  refine rgu 5 (some 26) rfl ?_
  refine rgu 6 (some 27) rfl ?_
  refine rgu 7 (some 28) rfl ?_
  refine rgu 8 (some 29) rfl ?_
  refine rgu 9 (some 30) rfl ?_
  try simp only [Act.put, List.setIfInBounds_toArray, List.set_cons_zero, List.set_cons_succ]
  refine rg_of (rs := [10, 12]) (fuel := 3) (by kernel_rfl) rfl ?_
  refine rg_step (i := 10) (l := #[true, true, true, true, true, true, true, true, true, true, true, false, false, false]) rfl (by kernel_rfl) (by kernel_rfl) ?_ ?_
  ·intro K hK
   go_simp
   go_at_call 98
   refine (hps _).mono ?_
   rintro e w3 ⟨rfl, hb3⟩
   have K3 := Lib.hid (K1.out.drew_.below hb3 K1.out.drew_.lt)
   have HB3 := Lib.hid (HB0.out.drew.trans (hb3.mono HB0.out.drew.size))
   clear hb3 s5 s4
   first | (refine hK.out _ _ ?_ (fun hHeld => ?_)) | (go_wp2_with fail; refine hK.out _ _ ?_ (fun hHeld => ?_))
   ·(try dsimp only); exact rpl_cells K3.out
   clear hK K
   refine rgu 11 (some 32) rfl ?_
   try simp only [Act.put, List.setIfInBounds_toArray, List.set_cons_zero, List.set_cons_succ]
   refine rg_next (i := 12) (l := #[true, true, true, true, true, true, true, true, true, true, true, true, true, false]) (fuel := 1) (by kernel_rfl) rfl (by kernel_rfl) (by kernel_rfl) (fun K hK => ?_)
   go_simp
   skip
   first | (refine hK.out _ _ ?_ (fun hHeld => ?_)) | (go_wp2_with fail; refine hK.out _ _ ?_ (fun hHeld => ?_))
   ·(try dsimp only); exact rpl_cells (K3.out.alloc _)
   clear hK K
   try simp only [Act.put, List.setIfInBounds_toArray, List.set_cons_zero, List.set_cons_succ]
   refine rg_next (i := 13) (l := #[true, true, true, true, true, true, true, true, true, true, true, true, true, true]) (fuel := 0) (by kernel_rfl) rfl (by kernel_rfl) (by kernel_rfl) (fun K hK => ?_)
   go_simp
   skip
   first | (refine hK.out _ _ ?_ (fun hHeld => ?_)) | (go_wp2_with fail; refine hK.out _ _ ?_ (fun hHeld => ?_))
   ·(try dsimp only); exact rpl_cells (K3.out.alloc _)
   clear hK K
   try simp only [Act.put, List.setIfInBounds_toArray, List.set_cons_zero, List.set_cons_succ]
   refine wpAnyH_done (by kernel_rfl) ?_ _
   have z3 := HB3.out.size
   go_wp2_with fail
   go_meet
   case rel => exact ⟨_, rfl, by rw [HD0.out, HD1.out]; exact Blk.new _ _ _, K3.out.alloc _, HB3.out.alloc z3 _, z3⟩
  refine rg_step (i := 12) (l := #[true, true, true, true, true, true, true, true, true, true, false, false, true, false]) rfl (by kernel_rfl) (by kernel_rfl) ?_ ?_
  ·intro K hK
   go_simp
   skip
   first | (refine hK.out _ _ ?_ (fun hHeld => ?_)) | (go_wp2_with fail; refine hK.out _ _ ?_ (fun hHeld => ?_))
   ·(try dsimp only); exact rpl_cells (K1.out.drew_.alloc _)
   clear hK K
   try simp only [Act.put, List.setIfInBounds_toArray, List.set_cons_zero, List.set_cons_succ]
   have K4 : Hid (Blk (w1.drew.alloc (.cells #[.int .u8 0, .int .u8 0, .int .u8 0] 197)) w1.drew.heap.size 197 #[.int .u8 0, .int .u8 0, .int .u8 0]) := Lib.hid (Blk.new _ _ _)
   have K5 := Lib.hid (K1.out.drew_.alloc (.cells #[.int .u8 0, .int .u8 0, .int .u8 0] 197))
   have z1 : w.heap.size ≤ w1.drew.heap.size := HB0.out.size
   have HB5 := Lib.hid (HB0.out.drew.alloc z1 (.cells #[.int .u8 0, .int .u8 0, .int .u8 0] 197))
   clear s5 s4
   refine rg_next (i := 10) (l := #[true, true, true, true, true, true, true, true, true, true, true, false, true, false]) (fuel := 2) (by kernel_rfl) rfl (by kernel_rfl) (by kernel_rfl) (fun K hK => ?_)
   go_simp
   go_at_call 98
   refine (hps _).mono ?_
   rintro e w3 ⟨rfl, hb3⟩
   have K43 := Lib.hid (K4.out.below hb3 K4.out.lt)
   have K3 := Lib.hid (K5.out.below hb3 K5.out.lt)
   have HB3 := Lib.hid (HB5.out.trans (hb3.mono HB5.out.size))
   clear hb3
   first | (refine hK.out _ _ ?_ (fun hHeld => ?_)) | (go_wp2_with fail; refine hK.out _ _ ?_ (fun hHeld => ?_))
   ·(try dsimp only); exact rpl_cells K3.out
   clear hK K
   refine rgu 11 (some 32) rfl ?_
   try simp only [Act.put, List.setIfInBounds_toArray, List.set_cons_zero, List.set_cons_succ]
   have K43b : Blk w3 w1.heap.size 197 #[.int .u8 0, .int .u8 0, .int .u8 0] := K43.out
   have hc0 : w3.cell? ⟨w1.heap.size, 0, none⟩ = some (.int .u8 0) := K43b.cell 0
   have hc1 : w3.cell? ⟨w1.heap.size, 1, none⟩ = some (.int .u8 0) := K43b.cell 1
   have hc2 : w3.cell? ⟨w1.heap.size, 2, none⟩ = some (.int .u8 0) := K43b.cell 2
   have hf0 : w3.frozen? ⟨w1.heap.size, 0, none⟩ = false := K43b.frozen 0
   have hf1 : w3.frozen? ⟨w1.heap.size, 1, none⟩ = false := K43b.frozen 1
   have hf2 : w3.frozen? ⟨w1.heap.size, 2, none⟩ = false := K43b.frozen 2
   have KS := Lib.hid (((K43b.set_ 0 (.int .u8 D0)).set_ 1 (.int .u8 D1)).set_ 2 (.int .u8 d2))
   have hstx : True := trivial -- #[.int .u8 D0, .int .u8 D1, .int .u8 d2] rfl (fun v hv => by simp at hv; rcases hv with rfl | rfl | rfl <;> rfl)
   have hne : g ≠ w1.heap.size := Nat.ne_of_lt K1.out.lt
   refine rg_next (i := 13) (l := #[true, true, true, true, true, true, true, true, true, true, true, true, true, true]) (fuel := 0) (by kernel_rfl) rfl (by kernel_rfl) (by kernel_rfl) (fun K hK => ?_)
   go_simp
   skip
   first | (refine hK.out _ _ ?_ (fun hHeld => ?_)) | (go_wp2_with fail; refine hK.out _ _ ?_ (fun hHeld => ?_))
   ·(try dsimp only); exact rpl_cells (((K3.out.far (p := ⟨w1.heap.size, 0, none⟩) hne _).far (p := ⟨w1.heap.size, 1, none⟩) hne _).far (p := ⟨w1.heap.size, 2, none⟩) hne _)
   clear hK K
   try simp only [Act.put, List.setIfInBounds_toArray, List.set_cons_zero, List.set_cons_succ]
   refine wpAnyH_done (by kernel_rfl) ?_ _
   clear hc0 hc1 hc2 hf0 hf1 hf2
   go_wp2_with fail
   go_meet
   case rel => exact ⟨_, rfl, by rw [HD0.out, HD1.out]; exact KS.out, ((K3.out.far (p := ⟨w1.heap.size, 0, none⟩) hne _).far (p := ⟨w1.heap.size, 1, none⟩) hne _).far (p := ⟨w1.heap.size, 2, none⟩) hne _, ((HB3.out.setCell (p := ⟨w1.heap.size, 0, none⟩) z1 _).setCell (p := ⟨w1.heap.size, 1, none⟩) z1 _).setCell (p := ⟨w1.heap.size, 2, none⟩) z1 _, z1⟩
  exact AllReadyH.nil
 case rest =>
  obtain ⟨g4, rfl, hk4, hkg, hbx, hz4⟩ := hcut
  have K4 := Lib.hid hk4
  have KG := Lib.hid hkg
  have HBX := Lib.hid hbx
  have c5 : World.cell? _ ⟨g, 5, none⟩ = some (.int .u16 (r 5)) := hkg.cell 5
  have HPL : Hid (plL k r d2 = [⟨2, r 5, false, 0⟩, ⟨2, r 5, false, 0⟩] ++ [plAe k r 0 (r 5 / 256), plAe k r 1 (r 5 % 256), plAe k r 2 d2] ++ [⟨7, A, false, 0⟩, ⟨7, A + 1, false, 0⟩, ⟨2, r 5, false, 0⟩]) := Lib.hid (by rw [← HA.out]; rfl)
  obtain ⟨D0, hD0⟩ : ∃ D0, r 5 / 256 = D0 := ⟨_, rfl⟩
  obtain ⟨D1, hD1⟩ : ∃ D1, r 5 % 256 = D1 := ⟨_, rfl⟩
  rw [hD0, hD1] at K4 HPL
  obtain ⟨PC, hPC⟩ : ∃ PC, r 5 = PC := ⟨_, rfl⟩
  rw [hPC] at c5 a5 b5 HPL
  have HPC := Lib.hid hPC
  clear hk4 hkg hbx hat hps K1 HB0 hD0 hD1 hPC
  have HD2 := Lib.hid hd2
  clear hd2 hg
  have zc := HBX.out.size
  have OWN0 : Hid ((wc.alloc (.cells #[.int .u8 2, .int .u16 PC, .bool false, .int .u8 0, .int .u8 2, .int .u16 PC, .bool false, .int .u8 0] 147)).ownsRow w.heap.size 147 4 (.slice (some ⟨wc.heap.size, 0, none⟩) 2 2) 2 (spL [⟨2, PC, false, 0⟩, ⟨2, PC, false, 0⟩])) := Lib.hid ⟨rfl, .inr ⟨_, 2, _, rfl, zc, heap_alloc_new _ _, Nat.le_refl _, by unfold maxLen; omega, rfl, by simp [spL, spC]⟩⟩
  have KG2 := Lib.hid (KG.out.alloc (.cells #[.int .u8 2, .int .u16 PC, .bool false, .int .u8 0, .int .u8 2, .int .u16 PC, .bool false, .int .u8 0] 147))
  have K42 := Lib.hid (K4.out.alloc (.cells #[.int .u8 2, .int .u16 PC, .bool false, .int .u8 0, .int .u8 2, .int .u16 PC, .bool false, .int .u8 0] 147))
  have HB2 := Lib.hid (HBX.out.alloc zc (.cells #[.int .u8 2, .int .u16 PC, .bool false, .int .u8 0, .int .u8 2, .int .u16 PC, .bool false, .int .u8 0] 147))
  go_upto_region 6 with fail
  obtain ⟨gc, hgc⟩ : ∃ gc, wc.heap.size = gc := ⟨_, rfl⟩
  obtain ⟨w3, hw3⟩ : ∃ w3, wc.alloc (.cells #[.int .u8 2, .int .u16 PC, .bool false, .int .u8 0, .int .u8 2, .int .u16 PC, .bool false, .int .u8 0] 147) = w3 := ⟨_, rfl⟩
  rw [hw3] at OWN0 KG2 K42 HB2 ⊢
  rw [hgc] at OWN0 ⊢
  clear hw3 hgc KG K4 HBX zc c5
  go_wp2_with fail
  go_loopw [7, 8] (fun v i wr => ∃ j : Nat, j ≤ 3 ∧ i = .int .i64 j ∧ wr.ownsRow w.heap.size 147 4 v (2 + j) (spL ([⟨2, PC, false, 0⟩, ⟨2, PC, false, 0⟩] ++ ([plAe k r 0 D0, plAe k r 1 D1, plAe k r 2 d2].take j))) ∧ Blk wr g4 197 #[.int .u8 D0, .int .u8 D1, .int .u8 d2] ∧ Blk wr g 32 (stA r) ∧ Below w.heap.size w wr) (fun _ i _ => 3 - (intOf i).toNat)
  case atStart => exact ⟨0, by omega, rfl, OWN0.out, K42.out, KG2.out, HB2.out⟩
  case round =>
   obtain ⟨j, hj, rfl, how, hk4, hkg, hbr⟩ := hrel
   have HOW := Lib.hid how
   have K43 := Lib.hid hk4
   have KG3 := Lib.hid hkg
   have HBr := Lib.hid hbr
   clear how hk4 hkg hbr OWN0 KG2 K42 HB2
   by_cases hlt : j < 3
   ·obtain ⟨dj, hdj⟩ : ∃ dj, [D0, D1, d2].getD j 0 = dj := ⟨_, rfl⟩
    obtain ⟨sj, hsj⟩ : ∃ sj, (r 3 - (j : Int)) % 256 = sj := ⟨_, rfl⟩
    have hj3 : j = 0 ∨ j = 1 ∨ j = 2 := by omega
    have HTK : Hid ([plAe k r 0 D0, plAe k r 1 D1, plAe k r 2 d2].take (j + 1) = [plAe k r 0 D0, plAe k r 1 D1, plAe k r 2 d2].take j ++ [plP k sj dj]) := Lib.hid (by rw [← hsj, ← hdj]; rcases hj3 with rfl | rfl | rfl <;> rfl)
    have HDJ : Hid ((#[.int .u8 D0, .int .u8 D1, .int .u8 d2] : Array Value)[j]? = some (.int .u8 dj)) := Lib.hid (by rw [← hdj]; rcases hj3 with rfl | rfl | rfl <;> rfl)
    have sj0 : 0 ≤ sj := by omega
    have sj1 : sj ≤ 255 := by omega
    have u1 : IntKind.u8.wrap (j : Int) = j := by simp [IntKind.wrap, IntKind.signed, IntKind.bits]; omega
    have u2 : IntKind.u8.wrap (r 3 - (j : Int)) = sj := by simp [IntKind.wrap, IntKind.signed, IntKind.bits]; omega
    have u3 : IntKind.u16.wrap sj = sj := by simp [IntKind.wrap, IntKind.signed, IntKind.bits]; omega
    have u4 : IntKind.u16.wrap (8448 + sj) = 8448 + sj := by simp [IntKind.wrap, IntKind.signed, IntKind.bits]; omega
    have c3 : wr.cell? ⟨g, 3, none⟩ = some (.int .u8 (r 3)) := KG3.out.cell 3
    have cj : wr.cell? ⟨g4, j, none⟩ = some (.int .u8 dj) := by rw [K43.out.cell j]; exact HDJ.out
    have j3 : (j : Int) < 3 := by omega
    clear hdj hsj hj3
    by_cases hk1 : k = 1
    ·skip
     have ek : ((k : Int) == 1) = true := by simp; omega
     have hpj : plP k sj dj = ⟨2, 8448 + sj, false, 0⟩ := if_pos hk1
     have HPJ := Lib.hid hpj
     clear hk1 hpj
     go_upto_region 9 with fail
     refine rg_begin (S := fun w' => w'.cell? ⟨g, 3, none⟩ = some (.int .u8 (r 3)) ∧ w'.cell? ⟨g4, j, none⟩ = some (.int .u8 dj)) 13 #[false, false, false, false, false, false, false, false, false, false, false, false, false] (by kernel_rfl) (by kernel_rfl) (by kernel_rfl) ?_ (fun hHeld => ?_)
     ·exact ⟨c3, cj⟩
     refine rgu 0 (some 44) rfl ?_
     refine rgu 1 (some 45) rfl ?_
     refine rgu 2 (some 46) rfl ?_
     refine rgu 3 (some 47) rfl ?_
     refine rgu 4 (some 48) rfl ?_
     refine rgu 5 (some 49) rfl ?_
     refine rgu 6 (some 50) rfl ?_
     refine rgu 7 (some 51) rfl ?_
     refine rgu 8 (some 52) rfl ?_
     refine rgu 9 (some 53) rfl ?_
     refine rgu 10 (some 54) rfl ?_
     try simp only [Act.put, List.setIfInBounds_toArray, List.set_cons_zero, List.set_cons_succ]
     refine rg_next (i := 11) (l := #[true, true, true, true, true, true, true, true, true, true, true, true, false]) (fuel := 1) (by kernel_rfl) rfl (by kernel_rfl) (by kernel_rfl) (fun K hK => ?_)
     go_simp
     skip
     first | (refine hK.out _ _ ?_ (fun hHeld => ?_)) | (go_wp2_with fail; refine hK.out _ _ ?_ (fun hHeld => ?_))
     ·(try dsimp only); exact ⟨(KG3.out.alloc _).drew_.cell 3, ((K43.out.alloc _).drew_.cell j).trans HDJ.out⟩
     clear hK K
     try simp only [Act.put, List.setIfInBounds_toArray, List.set_cons_zero, List.set_cons_succ]
     refine rg_next (i := 12) (l := #[true, true, true, true, true, true, true, true, true, true, true, true, true]) (fuel := 0) (by kernel_rfl) rfl (by kernel_rfl) (by kernel_rfl) (fun K hK => ?_)
     go_simp
     skip
     first | (refine hK.out _ _ ?_ (fun hHeld => ?_)) | (go_wp2_with fail; refine hK.out _ _ ?_ (fun hHeld => ?_))
     ·(try dsimp only); exact ⟨(KG3.out.alloc _).drew_.cell 3, ((K43.out.alloc _).drew_.cell j).trans HDJ.out⟩
     clear hK K
     try simp only [Act.put, List.setIfInBounds_toArray, List.set_cons_zero, List.set_cons_succ]
     refine wpAnyH_done (by kernel_rfl) ?_ _
     clear hHeld c3 cj
     have zw := HBr.out.size
     have KX : Hid (Blk ((wr.alloc (.cells #[.int .u8 5, .int .u16 (8448 + sj), .bool true, .int .u8 dj] 147)).drew) wr.heap.size 147 #[.int .u8 5, .int .u16 (8448 + sj), .bool true, .int .u8 dj]) := Lib.hid (Blk.new _ _ _).drew_
     have OW : Hid (((wr.alloc (.cells #[.int .u8 5, .int .u16 (8448 + sj), .bool true, .int .u8 dj] 147)).drew).ownsRow w.heap.size 147 4 u7 (2 + j) (spL ([⟨2, PC, false, 0⟩, ⟨2, PC, false, 0⟩] ++ ([plAe k r 0 D0, plAe k r 1 D1, plAe k r 2 d2].take j)))) := Lib.hid (by exact HOW.out.alloc _)
     have KG5 := Lib.hid (KG3.out.alloc (.cells #[.int .u8 5, .int .u16 (8448 + sj), .bool true, .int .u8 dj] 147)).drew_
     have K45 := Lib.hid (K43.out.alloc (.cells #[.int .u8 5, .int .u16 (8448 + sj), .bool true, .int .u8 dj] 147)).drew_
     have HB5 := Lib.hid (HBr.out.alloc zw (.cells #[.int .u8 5, .int .u16 (8448 + sj), .bool true, .int .u8 dj] 147)).drew
     obtain ⟨gx, hgx⟩ : ∃ gx, wr.heap.size = gx := ⟨_, rfl⟩
     obtain ⟨w5, hw5⟩ : ∃ w5, (wr.alloc (.cells #[.int .u8 5, .int .u16 (8448 + sj), .bool true, .int .u8 dj] 147)).drew = w5 := ⟨_, rfl⟩
     have kx : Blk w5 gx 147 #[.int .u8 5, .int .u16 (8448 + sj), .bool true, .int .u8 dj] := by rw [← hw5, ← hgx]; exact KX.out
     rw [hw5] at OW KG5 K45 HB5 ⊢
     rw [hgx] at zw ⊢
     have zw' : w.heap.size ≤ gx := by rw [← hgx]; exact HBr.out.size
     have hob : u7.ownBlock ≠ some gx := fun e => by have := (HOW.out.lt _ e).2; omega
     have HGX := Lib.hid (And.intro zw' hob)
     clear hob
     clear hw5 KX zw zw' hgx
     have x0 : w5.cell? ⟨gx, 0, none⟩ = some (.int .u8 5) := kx.cell 0
     have x1 : w5.cell? ⟨gx, 1, none⟩ = some (.int .u16 (8448 + sj)) := kx.cell 1
     have x2 : w5.cell? ⟨gx, 2, none⟩ = some (.bool true) := kx.cell 2
     have x3 : w5.cell? ⟨gx, 3, none⟩ = some (.int .u8 dj) := kx.cell 3
     have f0 : w5.frozen? ⟨gx, 0, none⟩ = false := kx.frozen 0
     have f1 : w5.frozen? ⟨gx, 1, none⟩ = false := kx.frozen 1
     have f2 : w5.frozen? ⟨gx, 2, none⟩ = false := kx.frozen 2
     have f3 : w5.frozen? ⟨gx, 3, none⟩ = false := kx.frozen 3
     have kx6 := (((kx.set_ 0 (.int .u8 2)).set_ 1 (.int .u16 (8448 + sj))).set_ 2 (.bool false)).set_ 3 (.int .u8 0)
     have OW6 := Lib.hid (own_set (own_set (own_set (own_set OW.out (p := ⟨gx, 0, none⟩) (.int .u8 2) HGX.out.2) (p := ⟨gx, 1, none⟩) (.int .u16 (8448 + sj)) HGX.out.2) (p := ⟨gx, 2, none⟩) (.bool false) HGX.out.2) (p := ⟨gx, 3, none⟩) (.int .u8 0) HGX.out.2)
     have n1 : g ≠ gx := Blk.ne_ KG5.out kx (by decide)
     have n2 : g4 ≠ gx := Blk.ne_ K45.out kx (by decide)
     have KG7 := Lib.hid ((((KG5.out.far (p := ⟨gx, 0, none⟩) n1 (.int .u8 2)).far (p := ⟨gx, 1, none⟩) n1 (.int .u16 (8448 + sj))).far (p := ⟨gx, 2, none⟩) n1 (.bool false)).far (p := ⟨gx, 3, none⟩) n1 (.int .u8 0))
     have K47 := Lib.hid ((((K45.out.far (p := ⟨gx, 0, none⟩) n2 (.int .u8 2)).far (p := ⟨gx, 1, none⟩) n2 (.int .u16 (8448 + sj))).far (p := ⟨gx, 2, none⟩) n2 (.bool false)).far (p := ⟨gx, 3, none⟩) n2 (.int .u8 0))
     have HB7 := Lib.hid ((((HB5.out.setCell (p := ⟨gx, 0, none⟩) HGX.out.1 (.int .u8 2)).setCell (p := ⟨gx, 1, none⟩) HGX.out.1 (.int .u16 (8448 + sj))).setCell (p := ⟨gx, 2, none⟩) HGX.out.1 (.bool false)).setCell (p := ⟨gx, 3, none⟩) HGX.out.1 (.int .u8 0))
     go_upto_region 12 with fail
     obtain ⟨w6, hw6⟩ : ∃ w6, (((w5.setCell ⟨gx, 0, none⟩ (.int .u8 2)).setCell ⟨gx, 1, none⟩ (.int .u16 (8448 + sj))).setCell ⟨gx, 2, none⟩ (.bool false)).setCell ⟨gx, 3, none⟩ (.int .u8 0) = w6 := ⟨_, rfl⟩
     rw [hw6] at kx6 OW6 KG7 K47 HB7 ⊢
     clear hw6 kx x0 x1 x2 x3 f0 f1 f2 f3 n1 n2 OW KG5 K45 HB5
     have kx : Blk w6 gx 147 #[.int .u8 2, .int .u16 (8448 + sj), .bool false, .int .u8 0] := kx6
     have OW := OW6
     have KG5 := KG7
     have K45 := K47
     have HB5 := HB7
     clear OW6 KG7 K47 HB7 kx6
     have HSX : Hid ((Tryz.prog.info? 147).map (·.size) = some (#[.int .u8 2, .int .u16 (8448 + sj), .bool false, .int .u8 0] : Array Value).size) := Lib.hid (by kernel_rfl)
     obtain ⟨v', w', hrun, own', gb⟩ := more_sp (P := Tryz.prog) (t := 145) (e := 147) (ty := 145) (c := 1) (m := 1) Tryz.underlying145 rsp_info OW.out [plP k sj dj] #[.int .u8 2, .int .u16 (8448 + sj), .bool false, .int .u8 0] (by rw [HPJ.out]; rfl) rfl (by omega) HB5.out.size
     have HW : Hid (w'.ownsRow w.heap.size 147 4 v' (2 + j + 1) (spL ([⟨2, PC, false, 0⟩, ⟨2, PC, false, 0⟩] ++ ([plAe k r 0 D0, plAe k r 1 D1, plAe k r 2 d2].take (j + 1))))) := Lib.hid (by rw [HTK.out, ← List.append_assoc, spL_app]; exact own')
     have KG6 := Lib.hid ((KG5.out.alloc _).grown gb (blk_not_row KG5.out (by decide) OW.out))
     have K46 := Lib.hid ((K45.out.alloc _).grown gb (blk_not_row K45.out (by decide) OW.out))
     have z5 := HB5.out.size
     have HB6 := Lib.hid ((HB5.out.alloc z5 _).grown gb (by simp; omega) (fun i h => (OW.out.lt i h).1))
     clear own' gb z5
     go_wp2_with (first
      | (refine wpList_load_row rfl 147 (.tmp 9) rfl gx (by rfl) 147 #[.int .u8 2, .int .u16 (8448 + sj), .bool false, .int .u8 0] (0, 0) _ kx Tryz.underlying147 rfl HSX.out ?_)
      | (at_builtin; refine wpList_append_run rfl (.tmp 60) (.tmp 62) 145 rfl rfl rfl hrun ?_))
     go_roundw
     case rel => exact ⟨j + 1, by omega, by go_num, HW.out, K46.out, KG6.out, HB6.out⟩
     case measure => simp [intOf]; omega

    ·skip
     have ek : ((k : Int) == 1) = false := by simp; omega
     have hpj : plP k sj dj = ⟨5, 8448 + sj, true, dj⟩ := if_neg hk1
     have HPJ := Lib.hid hpj
     clear hk1 hpj
     go_upto_region 9 with fail
     refine rg_begin (S := fun w' => w'.cell? ⟨g, 3, none⟩ = some (.int .u8 (r 3)) ∧ w'.cell? ⟨g4, j, none⟩ = some (.int .u8 dj)) 13 #[false, false, false, false, false, false, false, false, false, false, false, false, false] (by kernel_rfl) (by kernel_rfl) (by kernel_rfl) ?_ (fun hHeld => ?_)
     ·exact ⟨c3, cj⟩
     refine rgu 0 (some 44) rfl ?_
     refine rgu 1 (some 45) rfl ?_
     refine rgu 2 (some 46) rfl ?_
     refine rgu 3 (some 47) rfl ?_
     refine rgu 4 (some 48) rfl ?_
     refine rgu 5 (some 49) rfl ?_
     refine rgu 6 (some 50) rfl ?_
     refine rgu 7 (some 51) rfl ?_
     refine rgu 8 (some 52) rfl ?_
     refine rgu 9 (some 53) rfl ?_
     refine rgu 10 (some 54) rfl ?_
     try simp only [Act.put, List.setIfInBounds_toArray, List.set_cons_zero, List.set_cons_succ]
     refine rg_next (i := 11) (l := #[true, true, true, true, true, true, true, true, true, true, true, true, false]) (fuel := 1) (by kernel_rfl) rfl (by kernel_rfl) (by kernel_rfl) (fun K hK => ?_)
     go_simp
     skip
     first | (refine hK.out _ _ ?_ (fun hHeld => ?_)) | (go_wp2_with fail; refine hK.out _ _ ?_ (fun hHeld => ?_))
     ·(try dsimp only); exact ⟨(KG3.out.alloc _).drew_.cell 3, ((K43.out.alloc _).drew_.cell j).trans HDJ.out⟩
     clear hK K
     try simp only [Act.put, List.setIfInBounds_toArray, List.set_cons_zero, List.set_cons_succ]
     refine rg_next (i := 12) (l := #[true, true, true, true, true, true, true, true, true, true, true, true, true]) (fuel := 0) (by kernel_rfl) rfl (by kernel_rfl) (by kernel_rfl) (fun K hK => ?_)
     go_simp
     skip
     first | (refine hK.out _ _ ?_ (fun hHeld => ?_)) | (go_wp2_with fail; refine hK.out _ _ ?_ (fun hHeld => ?_))
     ·(try dsimp only); exact ⟨(KG3.out.alloc _).drew_.cell 3, ((K43.out.alloc _).drew_.cell j).trans HDJ.out⟩
     clear hK K
     try simp only [Act.put, List.setIfInBounds_toArray, List.set_cons_zero, List.set_cons_succ]
     refine wpAnyH_done (by kernel_rfl) ?_ _
     clear hHeld c3 cj
     have zw := HBr.out.size
     have KX : Hid (Blk ((wr.alloc (.cells #[.int .u8 5, .int .u16 (8448 + sj), .bool true, .int .u8 dj] 147)).drew) wr.heap.size 147 #[.int .u8 5, .int .u16 (8448 + sj), .bool true, .int .u8 dj]) := Lib.hid (Blk.new _ _ _).drew_
     have OW : Hid (((wr.alloc (.cells #[.int .u8 5, .int .u16 (8448 + sj), .bool true, .int .u8 dj] 147)).drew).ownsRow w.heap.size 147 4 u7 (2 + j) (spL ([⟨2, PC, false, 0⟩, ⟨2, PC, false, 0⟩] ++ ([plAe k r 0 D0, plAe k r 1 D1, plAe k r 2 d2].take j)))) := Lib.hid (by exact HOW.out.alloc _)
     have KG5 := Lib.hid (KG3.out.alloc (.cells #[.int .u8 5, .int .u16 (8448 + sj), .bool true, .int .u8 dj] 147)).drew_
     have K45 := Lib.hid (K43.out.alloc (.cells #[.int .u8 5, .int .u16 (8448 + sj), .bool true, .int .u8 dj] 147)).drew_
     have HB5 := Lib.hid (HBr.out.alloc zw (.cells #[.int .u8 5, .int .u16 (8448 + sj), .bool true, .int .u8 dj] 147)).drew
     obtain ⟨gx, hgx⟩ : ∃ gx, wr.heap.size = gx := ⟨_, rfl⟩
     obtain ⟨w5, hw5⟩ : ∃ w5, (wr.alloc (.cells #[.int .u8 5, .int .u16 (8448 + sj), .bool true, .int .u8 dj] 147)).drew = w5 := ⟨_, rfl⟩
     have kx : Blk w5 gx 147 #[.int .u8 5, .int .u16 (8448 + sj), .bool true, .int .u8 dj] := by rw [← hw5, ← hgx]; exact KX.out
     rw [hw5] at OW KG5 K45 HB5 ⊢
     rw [hgx] at zw ⊢
     have zw' : w.heap.size ≤ gx := by rw [← hgx]; exact HBr.out.size
     have hob : u7.ownBlock ≠ some gx := fun e => by have := (HOW.out.lt _ e).2; omega
     have HGX := Lib.hid (And.intro zw' hob)
     clear hob
     clear hw5 KX zw zw' hgx
     have HSX : Hid ((Tryz.prog.info? 147).map (·.size) = some (#[.int .u8 5, .int .u16 (8448 + sj), .bool true, .int .u8 dj] : Array Value).size) := Lib.hid (by kernel_rfl)
     obtain ⟨v', w', hrun, own', gb⟩ := more_sp (P := Tryz.prog) (t := 145) (e := 147) (ty := 145) (c := 1) (m := 1) Tryz.underlying145 rsp_info OW.out [plP k sj dj] #[.int .u8 5, .int .u16 (8448 + sj), .bool true, .int .u8 dj] (by rw [HPJ.out]; rfl) rfl (by omega) HB5.out.size
     have HW : Hid (w'.ownsRow w.heap.size 147 4 v' (2 + j + 1) (spL ([⟨2, PC, false, 0⟩, ⟨2, PC, false, 0⟩] ++ ([plAe k r 0 D0, plAe k r 1 D1, plAe k r 2 d2].take (j + 1))))) := Lib.hid (by rw [HTK.out, ← List.append_assoc, spL_app]; exact own')
     have KG6 := Lib.hid ((KG5.out.alloc _).grown gb (blk_not_row KG5.out (by decide) OW.out))
     have K46 := Lib.hid ((K45.out.alloc _).grown gb (blk_not_row K45.out (by decide) OW.out))
     have z5 := HB5.out.size
     have HB6 := Lib.hid ((HB5.out.alloc z5 _).grown gb (by simp; omega) (fun i h => (OW.out.lt i h).1))
     clear own' gb z5
     go_wp2_with (first
      | (refine wpList_load_row rfl 147 (.tmp 9) rfl gx (by rfl) 147 #[.int .u8 5, .int .u16 (8448 + sj), .bool true, .int .u8 dj] (0, 0) _ kx Tryz.underlying147 rfl HSX.out ?_)
      | (at_builtin; refine wpList_append_run rfl (.tmp 60) (.tmp 62) 145 rfl rfl rfl hrun ?_))
     go_roundw
     case rel => exact ⟨j + 1, by omega, by go_num, HW.out, K46.out, KG6.out, HB6.out⟩
     case measure => simp [intOf]; omega

   ·obtain rfl : j = 3 := by omega
    have c5 : wr.cell? ⟨g, 5, none⟩ = some (.int .u16 PC) := by rw [← HPC.out]; exact KG3.out.cell 5
    have u5 : IntKind.u16.wrap (A + 1) = A + 1 := by simp [IntKind.wrap, IntKind.signed, IntKind.bits]; omega
    obtain ⟨v', w', hrun, own', gb⟩ := more_sp (P := Tryz.prog) (t := 145) (e := 147) (ty := 145) (c := 3) (m := 3) Tryz.underlying145 rsp_info HOW.out [⟨7, A, false, 0⟩, ⟨7, A + 1, false, 0⟩, ⟨2, PC, false, 0⟩] #[.int .u8 7, .int .u16 A, .bool false, .int .u8 0, .int .u8 7, .int .u16 (A + 1), .bool false, .int .u8 0, .int .u8 2, .int .u16 PC, .bool false, .int .u8 0] rfl rfl (by omega) HBr.out.size
    have HW : Hid (w'.ownsRow w.heap.size 147 4 v' 8 (spL (plL k r d2))) := Lib.hid (by rw [HPL.out, spL_app]; exact own')
    have z5 := HBr.out.size
    have HB6 := Lib.hid ((HBr.out.alloc z5 (.cells #[.int .u8 7, .int .u16 A, .bool false, .int .u8 0, .int .u8 7, .int .u16 (A + 1), .bool false, .int .u8 0, .int .u8 2, .int .u16 PC, .bool false, .int .u8 0] 147)).grown gb (by simp; omega) (fun i h => (HOW.out.lt i h).1))
    clear own' gb z5
    go_wp2_with (at_builtin; refine wpList_append_run rfl (.tmp 64) (.tmp 73) 145 rfl rfl rfl hrun ?_)
    go_ret
    exact ⟨_, rfl, HW.out, HB6.out⟩
end Go.Proofs.YtndhkdcdhpfajaaGreat
