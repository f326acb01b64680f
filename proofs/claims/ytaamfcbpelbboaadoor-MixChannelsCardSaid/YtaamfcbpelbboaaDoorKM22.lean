/-
  Texts of these proofs, one behind the other: Psg5, Mix5.
-/
import Derived.Test.YtaamfcbpelbboaaDoorKM21
namespace Go.Proofs.YtaamfcbpelbboaaDoor
open Go.RowKit
set_option linter.unusedVariables false
set_option linter.unusedSimpArgs false
set_option maxRecDepth 100000
/-- How high and loud a channel of six is heard. -/
def Sg.vc (s : Sg) (i : Nat) : Vc := if (s.xs i).on = true ∧ (¬ i = 1 ∨ s.depth = 0) then (s.xs i).vc else Vc.zero
theorem zeroV (w : World) : (zeroValue 68).run Tryd.prog w = .ok (.agg (vsC (fun _ => Vc.zero) 6)) w := (zero_of_info (show (Tryd.prog.info? 68).map (fun i => (i.zero, i.size)) = some (some (.agg (vsC (fun _ => Vc.zero) 6)), 24) by kernel_rfl)).1 w
def ptrL (ns : Nat → Nat) : List Value := (List.range 6).map fun i => .pointer (some ⟨ns i, 0, none⟩)
theorem ptrL_at (ns : Nat → Nat) (i : Nat) (h : i < 6) : (ptrL ns)[i]? = some (.pointer (some ⟨ns i, 0, none⟩)) := by simp [ptrL, h]
theorem ptrL_len (ns : Nat → Nat) : (ptrL ns).length = 6 := by simp [ptrL]
/-- What lies there when k channels were asked. -/
def VI (w : World) (h g : Nat) (ns : Nat → Nat) (s : Sg) (k : Nat) (wr : World) : Prop :=
  Blk wr h 68 (vsC (fun _ => Vc.zero) 6) ∧ Blk wr (h + 1) 68 (vsC (fun i => if i < k then s.vc i else Vc.zero) 6) ∧ PG wr g ns s ∧ Below h w wr
section
variable {w wr w2 : World} {h g : Nat} {ns : Nat → Nat} {s : Sg} {k : Nat}
theorem VI.below (x : VI w h g ns s k wr) (hh : h ≤ wr.heap.size) (b : Below wr.heap.size wr w2) : VI w h g ns s k w2 :=
  ⟨x.1.below b x.1.lt, x.2.1.below b x.2.1.lt, x.2.2.1.below b, Below.trans x.2.2.2 (b.mono hh)⟩
theorem VI.skip (x : VI w h g ns s k wr) (hk : k < 6) (e : s.vc k = Vc.zero) : VI w h g ns s (k + 1) wr :=
  ⟨x.1, by
    have e2 : vsC (fun i => if i < k + 1 then s.vc i else Vc.zero) 6 = vsC (fun i => if i < k then s.vc i else Vc.zero) 6 := vsC_congr fun i _ => by
      by_cases h1 : i < k
      · rw [if_pos h1, if_pos (by omega)]
      · by_cases h2 : i = k
        · subst h2; rw [if_pos (by omega), if_neg h1, e]
        · rw [if_neg h1, if_neg (by omega)]
    rw [e2]; exact x.2.1, x.2.2⟩
theorem VI.put (x : VI w h g ns s k wr) (hk : k < 6) (v : Vc) (e : s.vc k = v) :
    VI w h g ns s (k + 1) ((((wr.setCell ⟨h + 1, k * 4, none⟩ (.int .u8 v.lv)).setCell ⟨h + 1, k * 4 + 1, none⟩ (.int .u8 v.vo)).setCell ⟨h + 1, k * 4 + 2, none⟩ (.int .u8 v.lf)).setCell ⟨h + 1, k * 4 + 3, none⟩ (.int .u8 v.rt)) := by
  obtain ⟨x1, x2, x3, x4⟩ := x
  have kk : Kp [h + 1] wr ((((wr.setCell ⟨h + 1, k * 4, none⟩ (.int .u8 v.lv)).setCell ⟨h + 1, k * 4 + 1, none⟩ (.int .u8 v.vo)).setCell ⟨h + 1, k * 4 + 2, none⟩ (.int .u8 v.lf)).setCell ⟨h + 1, k * 4 + 3, none⟩ (.int .u8 v.rt)) :=
    ((((Kp.refl _ _).setCell (.inl (by simp)) _).setCell (.inl (by simp)) _).setCell (.inl (by simp)) _).setCell (.inl (by simp)) _
  refine ⟨x1.kp kk (by simp), ?_, x3.kp kk (by have := Blk.ne_ x3.1 x2 (by decide); simpa using this) (fun i hi => by have := Blk.ne_ (x3.2.1 i hi).1 x2 (by decide); simpa using this), ?_⟩
  · have q := (((x2.set_ (k * 4) (.int .u8 v.lv)).set_ (k * 4 + 1) (.int .u8 v.vo)).set_ (k * 4 + 2) (.int .u8 v.lf)).set_ (k * 4 + 3) (.int .u8 v.rt)
    rw [vsC_put _ 6 k hk v] at q
    have e2 : vsC (fun i => if i < k + 1 then s.vc i else Vc.zero) 6 = vsC (fun i => if i = k then v else if i < k then s.vc i else Vc.zero) 6 := vsC_congr fun i _ => by
      by_cases h1 : i < k
      · rw [if_pos (by omega), if_neg (by omega), if_pos h1]
      · by_cases h2 : i = k
        · subst h2; rw [if_pos (by omega), if_pos rfl, e]
        · rw [if_neg (by omega), if_neg h2, if_neg h1]
    rw [e2]; exact q
  · exact (((x4.setCell (p := ⟨h + 1, k * 4, none⟩) (Nat.le_succ _) _).setCell (p := ⟨h + 1, k * 4 + 1, none⟩) (Nat.le_succ _) _).setCell (p := ⟨h + 1, k * 4 + 2, none⟩) (Nat.le_succ _) _).setCell (p := ⟨h + 1, k * 4 + 3, none⟩) (Nat.le_succ _) _
end
set_option maxHeartbeats 2000000 in
theorem voices_any {w : World} {g : Nat} {ns : Nat → Nat} {s : Sg} (h : PG w g ns s) (hD : TabAt w 1 4 dp) : Calls Tryd.prog 35 #[.pointer (some ⟨g, 0, none⟩)] w fun e w' => e = .returned (.agg (vsC s.vc 6)) ∧ Below w.heap.size w w' := by
  have H := Lib.hid h
  have HD := Lib.hid hD
  have hz := zeroV
  clear h hD
  go_enter Tryd.func35, Tryd.ntmps35
  go_upto_region 4 with fail
  have hb0 : Blk ((w.alloc (.cells (vsC (fun _ => Vc.zero) 6) 68)).alloc (.cells (vsC (fun _ => Vc.zero) 6) 68)) w.heap.size 68 (vsC (fun _ => Vc.zero) 6) := (Blk.new w _ _).alloc _
  have hb1 : Blk ((w.alloc (.cells (vsC (fun _ => Vc.zero) 6) 68)).alloc (.cells (vsC (fun _ => Vc.zero) 6) 68)) (w.heap.size + 1) 68 (vsC (fun i => if i < 0 then s.vc i else Vc.zero) 6) := by
    rw [show vsC (fun i => if i < 0 then s.vc i else Vc.zero) 6 = vsC (fun _ => Vc.zero) 6 from vsC_congr fun i _ => if_neg (by omega)]
    exact Blk.new_ (by simp)
  have hB0 : Below w.heap.size w ((w.alloc (.cells (vsC (fun _ => Vc.zero) 6) 68)).alloc (.cells (vsC (fun _ => Vc.zero) 6) 68)) := ((Below.refl _ _).alloc (Nat.le_refl _) _).alloc (by simp) _
  have hI : VI w w.heap.size g ns s 0 _ := ⟨hb0, hb1, H.out.below hB0, hB0⟩
  have HI := Lib.hid hI
  clear hb0 hb1 hB0 hI hz
  generalize World.alloc _ _ = wa at *
  obtain ⟨h, hg⟩ : ∃ h, w.heap.size = h := ⟨_, rfl⟩
  rw [hg] at HI
  simp only [hg]
  have HG0 := Lib.hid hg
  clear hg
  have HR : Hid (wa.rangeAt g 0 (ptrL ns)) := Lib.hid fun j v hv => by
    have hj : j < 6 := by
      by_cases hj : j < 6
      · exact hj
      · rw [List.getElem?_eq_none (by rw [ptrL_len]; omega)] at hv; cases hv
    rw [ptrL_at ns j hj] at hv
    cases hv
    rw [Nat.zero_add]
    exact HI.out.2.2.1.1.ptr j hj
  have H9 := Lib.hid (show (Tryd.prog.info? 64).map (·.size) = some (ptrL ns).length by rw [ptrL_len]; kernel_rfl)
  have hpl : Tryd.prog.underlying 64 = some (.array 6 63) := Tryd.underlying64
  have HPL := Lib.hid hpl
  clear hpl
  go_wp2_with (refine wpList_load_mid rfl 64 (.tmp 11) rfl g 0 (by rfl) (ptrL ns) _ HR.out Tryd.underlying64 rfl H9.out ?_)
  go_loopw [13] (fun i wr => ∃ k : Nat, k ≤ 6 ∧ i = .int .i64 k ∧ VI w h g ns s k wr) (fun i _ => 6 - (intOf i).toNat)
  case atStart => exact ⟨0, by omega, rfl, HI.out⟩
  case round =>
    obtain ⟨k, hk, rfl, hI⟩ := hrel
    clear HI HR H9
    have HI := Lib.hid hI
    by_cases hlt : k < 6
    · have i0 : (0 : Int) ≤ (k : Int) := by omega
      have i1 : (k : Int) < 6 := by omega
      have hx : ∀ W, (Instr.index 64 (.agg (ptrL ns).toArray) (.int .i64 k)).run Tryd.prog W = .ok (.pointer (some ⟨ns k, 0, none⟩)) W := fun W =>
        run_index_agg HPL.out (by kernel_rfl) i0 i1 (by simpa using ptrL_at ns k hlt) W
      have HG := Lib.hid (show h ≤ wr.heap.size by rw [← HG0.out]; exact hI.2.2.2.size)
      clear hI
      cases ho : (s.xs k).on with
      | false =>
        have HO := Lib.hid ho
        have HC : Hid (¬ ((s.xs k).on = true ∧ (¬ k = 1 ∨ s.depth = 0))) := Lib.hid (by rw [HO.out]; simp)
        clear ho
        go_wp2_with fail
        refine (con_v (HI.out.2.2.1.2.1 k hlt) HO.out).mono ?_
        rintro e w' ⟨rfl, rfl⟩
        have X := Lib.hid (VI.skip HI.out hlt (by unfold Sg.vc; rw [if_neg HC.out]))
        go_wp2_with fail
        go_roundw
        case rel => exact ⟨k + 1, by omega, by go_num, X.out⟩
        case measure => simp [intOf]; omega
      | true =>
        have HO := Lib.hid ho
        clear ho
        by_cases h1 : k = 1
        · have n1 : ((k : Int) != 1) = false := by rw [h1]; rfl
          have H1 := Lib.hid h1
          clear h1
          by_cases hd : s.depth = 0
          · have HC : Hid ((s.xs k).on = true ∧ (¬ k = 1 ∨ s.depth = 0)) := Lib.hid ⟨HO.out, .inr hd⟩
            have HDD := Lib.hid hd
            clear hd
            go_wp2_with fail
            refine (con_v (HI.out.2.2.1.2.1 k hlt) HO.out).mono ?_
            rintro e w' ⟨rfl, rfl⟩
            go_wp2_with fail
            refine (pdepth_any HI.out.2.2.1 (HD.out.below (HG0.out ▸ HI.out.2.2.2))).mono ?_
            rw [HDD.out]
            rintro e w' ⟨rfl, rfl⟩
            have HD1 := Lib.hid (HC.out.1)
            go_wp2_with fail
            refine (voice_any (HI.out.2.2.1.2.1 k hlt)).mono ?_
            rintro e w2 ⟨rfl, b2⟩
            have Q := Lib.hid (VI.below HI.out (by have := HG.out; omega) b2)
            clear b2
            have q := Q.out.2.1
            obtain ⟨u0, k0⟩ : ∃ u, w2.cell? ⟨h + 1, k * 4, none⟩ = some u := ⟨_, by rw [q.cell]; exact vsC_at _ 6 k 0 hlt (by decide)⟩
            obtain ⟨u1, k1⟩ : ∃ u, w2.cell? ⟨h + 1, k * 4 + 1, none⟩ = some u := ⟨_, by rw [q.cell]; exact vsC_at _ 6 k 1 hlt (by decide)⟩
            obtain ⟨u2, k2⟩ : ∃ u, w2.cell? ⟨h + 1, k * 4 + 2, none⟩ = some u := ⟨_, by rw [q.cell]; exact vsC_at _ 6 k 2 hlt (by decide)⟩
            obtain ⟨u3, k3⟩ : ∃ u, w2.cell? ⟨h + 1, k * 4 + 3, none⟩ = some u := ⟨_, by rw [q.cell]; exact vsC_at _ 6 k 3 hlt (by decide)⟩
            have f0 := q.frozen (k * 4)
            have f1 := q.frozen (k * 4 + 1)
            have f2 := q.frozen (k * 4 + 2)
            have f3 := q.frozen (k * 4 + 3)
            have X := Lib.hid (VI.put Q.out hlt ((s.xs k).vc) (by unfold Sg.vc; rw [if_pos HC.out]))
            clear q
            unfold vcC
            go_wp2_with fail
            go_roundw
            case rel => exact ⟨k + 1, by omega, by go_num, X.out⟩
            case measure => simp [intOf]; omega
          · have HC : Hid (¬ ((s.xs k).on = true ∧ (¬ k = 1 ∨ s.depth = 0))) := Lib.hid (fun x => x.2.elim (fun y => y H1.out) hd)
            obtain ⟨d, hdd⟩ : ∃ d, s.depth = d := ⟨_, rfl⟩
            rw [hdd] at hd
            have HDD := Lib.hid hdd
            have nd := neqB hd
            clear hd hdd
            go_wp2_with fail
            refine (con_v (HI.out.2.2.1.2.1 k hlt) HO.out).mono ?_
            rintro e w' ⟨rfl, rfl⟩
            go_wp2_with fail
            refine (pdepth_any HI.out.2.2.1 (HD.out.below (HG0.out ▸ HI.out.2.2.2))).mono ?_
            rw [HDD.out]
            rintro e w' ⟨rfl, rfl⟩
            have X := Lib.hid (VI.skip HI.out hlt (by unfold Sg.vc; rw [if_neg HC.out]))
            go_wp2_with fail
            go_roundw
            case rel => exact ⟨k + 1, by omega, by go_num, X.out⟩
            case measure => simp [intOf]; omega
        · have n1 : ((k : Int) != 1) = true := by simp [bne, neqB (show ¬ (k : Int) = 1 by omega)]
          have HC : Hid ((s.xs k).on = true ∧ (¬ k = 1 ∨ s.depth = 0)) := Lib.hid ⟨HO.out, .inl h1⟩
          go_wp2_with fail
          refine (con_v (HI.out.2.2.1.2.1 k hlt) HO.out).mono ?_
          rintro e w' ⟨rfl, rfl⟩
          have HD1 := Lib.hid (HC.out.1)
          go_wp2_with fail
          refine (voice_any (HI.out.2.2.1.2.1 k hlt)).mono ?_
          rintro e w2 ⟨rfl, b2⟩
          have Q := Lib.hid (VI.below HI.out (by have := HG.out; omega) b2)
          clear b2
          have q := Q.out.2.1
          obtain ⟨u0, k0⟩ : ∃ u, w2.cell? ⟨h + 1, k * 4, none⟩ = some u := ⟨_, by rw [q.cell]; exact vsC_at _ 6 k 0 hlt (by decide)⟩
          obtain ⟨u1, k1⟩ : ∃ u, w2.cell? ⟨h + 1, k * 4 + 1, none⟩ = some u := ⟨_, by rw [q.cell]; exact vsC_at _ 6 k 1 hlt (by decide)⟩
          obtain ⟨u2, k2⟩ : ∃ u, w2.cell? ⟨h + 1, k * 4 + 2, none⟩ = some u := ⟨_, by rw [q.cell]; exact vsC_at _ 6 k 2 hlt (by decide)⟩
          obtain ⟨u3, k3⟩ : ∃ u, w2.cell? ⟨h + 1, k * 4 + 3, none⟩ = some u := ⟨_, by rw [q.cell]; exact vsC_at _ 6 k 3 hlt (by decide)⟩
          have f0 := q.frozen (k * 4)
          have f1 := q.frozen (k * 4 + 1)
          have f2 := q.frozen (k * 4 + 2)
          have f3 := q.frozen (k * 4 + 3)
          have X := Lib.hid (VI.put Q.out hlt ((s.xs k).vc) (by unfold Sg.vc; rw [if_pos HC.out]))
          clear q
          unfold vcC
          go_wp2_with fail
          go_roundw
          case rel => exact ⟨k + 1, by omega, by go_num, X.out⟩
          case measure => simp [intOf]; omega
    · have i1 : ¬ (k : Int) < 6 := by omega
      obtain rfl : k = 6 := by omega
      have hst := hI.1.run_store (P := Tryd.prog) (vsC (fun i => if i < 6 then s.vc i else Vc.zero) 6) (by rw [vsC_size, vsC_size]) (vsC_one _ _)
      have hq := hI.1.row (vsC (fun i => if i < 6 then s.vc i else Vc.zero) 6)
      have hld := hq.run_load (P := Tryd.prog) Tryd.underlying68 rfl (by rw [vsC_size]; kernel_rfl)
      have HLD := Lib.hid hld
      have HB2 := Lib.hid (below_setRow hI.2.2.2 (Nat.le_refl h) (vsC (fun i => if i < 6 then s.vc i else Vc.zero) 6))
      have HS := Lib.hid (show (Tryd.prog.info? 68).map (·.size) = some (vsC (fun i => if i < 6 then s.vc i else Vc.zero) 6).size by rw [vsC_size]; kernel_rfl)
      have HE := Lib.hid (show vsC (fun i => if i < 6 then s.vc i else Vc.zero) 6 = vsC s.vc 6 from vsC_congr fun i hi => if_pos hi)
      have hsz := cellsOf_len 4 (fun i j => Value.int .u8 ((if i < 6 then s.vc i else Vc.zero).fld j)) 6
      clear hq hld hI
      go_upto_region 10 with fail
      go_wp2_with (refine wpList_load_row rfl 68 (.tmp 3) rfl (h + 1) (by rfl) 68 (vsC (fun i => if i < 6 then s.vc i else Vc.zero) 6) (0, 0) _ HI.out.2.1 Tryd.underlying68 rfl HS.out ?_)
      refine bodyPost_ret (v := .agg (vsC (fun i => if i < 6 then s.vc i else Vc.zero) 6)) (results_cell (a := ⟨h, 0, none⟩) Tryd.results35 (by rfl) HLD.out) rfl ?_
      exact ⟨by rw [HE.out], by rw [HG0.out]; exact HB2.out⟩
theorem voices_nil (w : World) : Calls Tryd.prog 35 #[.pointer none] w fun e w' => e = .returned (.agg (vsC (fun _ => Vc.zero) 6)) ∧ Below w.heap.size w w' := by
  have hz := zeroV
  have hb0 : Blk ((w.alloc (.cells (vsC (fun _ => Vc.zero) 6) 68)).alloc (.cells (vsC (fun _ => Vc.zero) 6) 68)) w.heap.size 68 (vsC (fun _ => Vc.zero) 6) := (Blk.new w _ _).alloc _
  have hb1 : Blk ((w.alloc (.cells (vsC (fun _ => Vc.zero) 6) 68)).alloc (.cells (vsC (fun _ => Vc.zero) 6) 68)) (w.heap.size + 1) 68 (vsC (fun _ => Vc.zero) 6) := Blk.new_ (by simp)
  have hB0 : Below w.heap.size w ((w.alloc (.cells (vsC (fun _ => Vc.zero) 6) 68)).alloc (.cells (vsC (fun _ => Vc.zero) 6) 68)) := ((Below.refl _ _).alloc (Nat.le_refl _) _).alloc (by simp) _
  have HI := Lib.hid (And.intro hb0 (And.intro hb1 hB0))
  have HS := Lib.hid (show (Tryd.prog.info? 68).map (·.size) = some (vsC (fun _ => Vc.zero) 6).size by rw [vsC_size]; kernel_rfl)
  clear hb0 hb1 hB0
  go_enter Tryd.func35, Tryd.ntmps35
  go_upto_region 3 with fail
  generalize World.alloc _ _ = wa at *
  have hst := HI.out.1.run_store (P := Tryd.prog) (vsC (fun _ => Vc.zero) 6) rfl (vsC_one _ _)
  have hld := (HI.out.1.row (vsC (fun _ => Vc.zero) 6)).run_load (P := Tryd.prog) Tryd.underlying68 rfl HS.out
  have HLD := Lib.hid hld
  have HB2 := Lib.hid (below_setRow HI.out.2.2 (Nat.le_refl w.heap.size) (vsC (fun _ => Vc.zero) 6))
  clear hld
  go_wp2_with (refine wpList_load_row rfl 68 (.tmp 3) rfl (w.heap.size + 1) (by rfl) 68 (vsC (fun _ => Vc.zero) 6) (0, 0) _ HI.out.2.1 Tryd.underlying68 rfl HS.out ?_)
  refine bodyPost_ret (v := .agg (vsC (fun _ => Vc.zero) 6)) (results_cell (a := ⟨w.heap.size, 0, none⟩) Tryd.results35 (by rfl) HLD.out) rfl ?_
  exact ⟨rfl, HB2.out⟩
end Go.Proofs.YtaamfcbpelbboaaDoor
namespace Go.Proofs.YtaamfcbpelbboaaDoor
open Go.RowKit
set_option linter.unusedVariables false
set_option linter.unusedSimpArgs false
set_option maxRecDepth 100000
def Vc.un (v : Vc) : Bool := v.vo == 0 && (v.lf == 0 && v.rt == 0)
theorem unheard_any (v : Vc) (w : World) : Calls Tryd.prog 38 #[.agg (vcC v)] w fun e w' => e = .returned (.bool v.un) ∧ Below w.heap.size w w' := by
  unfold Vc.un vcC
  obtain ⟨a, ha⟩ : ∃ a, (v.vo == 0) = a := ⟨_, rfl⟩
  obtain ⟨b, hb⟩ : ∃ b, (v.lf == 0) = b := ⟨_, rfl⟩
  obtain ⟨c, hc⟩ : ∃ c, (v.rt == 0) = c := ⟨_, rfl⟩
  rw [ha, hb, hc]
  go_enter Tryd.func38, Tryd.ntmps38
  go_wp2_with fail
  all_goals
    go_ret
    exact ⟨by simp_all, (Below.refl _ _).alloc (Nat.le_refl _) _⟩
theorem ixf_any {w : World} {A : Option Addr} {n c : Nat} {v : Nat → Vc} (hV : VR w A n v) (hn : n ≤ 300) :
    Calls Tryd.prog 49 #[.slice A n c, .func (.func 38) #[] #[]] w fun e w' => ((∃ k : Nat, k < n ∧ (v k).un = true ∧ (∀ j, j < k → (v j).un = false) ∧ e = .returned (.int .i64 k)) ∨ ((∀ j, j < n → (v j).un = false) ∧ e = .returned (.int .i64 (-1)))) ∧ Below w.heap.size w w' := by
  have HV := Lib.hid hV
  clear hV
  go_enter Tryd.func49, Tryd.ntmps49
  go_wp2_with fail
  go_loopw [8] (fun i wr => ∃ k : Nat, k ≤ n ∧ i = .int .i64 k ∧ Hid (∀ j, j < k → (v j).un = false) ∧ Below w.heap.size w wr) (fun i _ => n - (intOf i).toNat)
  case atStart => exact ⟨0, by omega, rfl, Lib.hid fun j hj => absurd hj (by omega), Below.refl _ _⟩
  case round =>
    obtain ⟨k, hk, rfl, HU, hB⟩ := hrel
    have HB := Lib.hid hB
    clear hB
    by_cases hlt : k < n
    · have i0 : (0 : Int) ≤ (k : Int) := by omega
      have i1 : (k : Int) < n := by omega
      obtain ⟨ad, rfl, hl, q0, q1, q2, q3, _⟩ := (HV.out.keep HB.out).at_ k hlt
      clear hl
      obtain ⟨u, hu⟩ : ∃ u, (v k).un = u := ⟨_, rfl⟩
      have HX := Lib.hid hu
      clear hu
      go_wp2_with fail
      refine (unheard_any (v k) _).mono ?_
      rw [HX.out]
      rintro e w1 ⟨rfl, b1⟩
      have HB1 := Lib.hid (Below.trans HB.out (b1.mono HB.out.size))
      clear b1
      cases u with
      | true =>
        go_wp2_with fail
        go_ret
        exact ⟨.inl ⟨k, hlt, HX.out, HU.out, rfl⟩, HB1.out⟩
      | false =>
        go_wp2_with fail
        go_roundw
        case rel =>
          refine ⟨k + 1, by omega, by go_num, Lib.hid fun j hj => ?_, HB1.out⟩
          by_cases e : j = k
          · subst e; exact HX.out
          · exact HU.out j (by omega)
        case measure => simp [intOf]; omega
    · have i1 : ¬ (k : Int) < n := by omega
      obtain rfl : k = n := by omega
      go_wp2_with fail
      go_ret
      exact ⟨.inr ⟨HU.out, rfl⟩, HB.out⟩
end Go.Proofs.YtaamfcbpelbboaaDoor
