/-
  Texts of these proofs, one behind the other: Ram8, Ram12.
-/
import Derived.Test.YtndhkdcdhpfajaaGreatKED36
import Derived.Test.YtndhkdcdhpfajaaGreatKED31
import Derived.Test.YtndhkdcdhpfajaaGreatKED27
import Derived.Deep.MidRow
import Derived.Deep.Cut
import Derived.Deep.CutRange
import Derived.Test.YtndhkdcdhpfajaaGreatKED29
import Derived.Test.YtndhkdcdhpfajaaGreatKED35
namespace Go.Proofs.YtndhkdcdhpfajaaGreat
open Go.RowKit
set_option linter.unusedVariables false
set_option linter.unusedSimpArgs false
set_option maxRecDepth 100000
/-- The first k blocks of f; else 0. -/
def upto (f : Nat → Int) (k : Nat) (j : Nat) : Int := if j < 64 * k then f j else 0
def OfR (ps : Nat → Pc) (m : Nat) (w : World) (e : Ending) (w' : World) : Prop :=
 Below w.heap.size w w' ∧ ((∃ j, j < m ∧ ¬ good 8192 (ps j) ∧ (∀ i, i < j → good 8192 (ps i)) ∧ e = .returned (.tuple #[.pointer none, .agg #[.int .i64 1, .int .i64 j]])) ∨
  ((∀ i, i < m → good 8192 (ps i)) ∧ ∃ g mb, e = .returned (.tuple #[.pointer (some ⟨g, 0, none⟩), .agg #[.int .i64 0, .int .i64 0]]) ∧ w.heap.size ≤ g ∧ (∀ b, mb = some b → w.heap.size ≤ b) ∧ RD w' g mb (laid ps m)))
set_option maxHeartbeats 4000000 in
theorem ramof_any (A : Option Addr) (m c : Nat) (ps : Nat → Pc) (w : World) (hm : m ≤ maxLen) (R : PRow w A m ps) :
  Calls Tryz.prog 48 #[.slice A m c] w (OfR ps m w) := by
 have hz := zero88
 have hsz := arr_size
 have RH := Lib.hid R
 have HM := Lib.hid hm
 clear R hm
 go_enter Tryz.func48, Tryz.ntmps48
 go_wp2_with fail
 have hB0 : Below w.heap.size w (w.alloc (.cells #[.int .i64 0, .int .i64 0] 37)) := (Below.refl _ _).alloc (Nat.le_refl _) _
 have hF0 : Blk (w.alloc (.cells #[.int .i64 0, .int .i64 0] 37)) w.heap.size 37 #[.int .i64 0, .int .i64 0] := Blk.new _ _ _
 refine (make_any 1 8192 A m c ps _ (by kernel_rfl) (by omega) HM.out (RH.out.keep hB0)).mono ?_
 rintro e w1 ⟨hb, hres⟩
 have hB1 := hB0.trans (hb.mono hB0.size)
 have hF1 := hF0.below hb hF0.lt
 rcases hres with ⟨j, hj, hbad, hgd, rfl⟩ | ⟨hall, gp, C, rfl, hgp, hC, hBA⟩
 ·have f0 : w1.frozen? ⟨w.heap.size, 0, none⟩ = false := hF1.frozen 0
  have f1 : w1.frozen? ⟨w.heap.size, 1, none⟩ = false := hF1.frozen 1
  have c0 : w1.cell? ⟨w.heap.size, 0, none⟩ = some (.int .i64 0) := hF1.cell 0
  have c1 : w1.cell? ⟨w.heap.size, 1, none⟩ = some (.int .i64 0) := hF1.cell 1
  have HFX := Lib.hid hF1
  have hlt := hF1.lt
  clear hF0 hF1 hb hB0
  go_wp2_with fail
  go_region
  all_goals
   go_wp2
   refine bodyPost_ret (v := .tuple #[.pointer none, .agg #[.int .i64 1, .int .i64 j]]) (by simp [results, Tryz.results48, go_sem, c0, c1, hlt]) rfl ?_
   refine ⟨?_, .inl ⟨j, hj, hbad, hgd, rfl⟩⟩
   exact ((((hB1.setCell (p := ⟨w.heap.size, 0, none⟩) (Nat.le_refl _) _).setCell (p := ⟨w.heap.size, 1, none⟩) (Nat.le_refl _) _).alloc (by have := hB1.size; simp [World.setCell]; omega) _)).drew
 ·have HC := Lib.hid hC
  have HBA := Lib.hid hBA
  have HFX := Lib.hid hF1
  clear hC hBA hF1 hF0 hb hB0
  go_wp2_with fail
  refine (rnew_any _).mono ?_
  rintro e w2 ⟨rfl, h2, k2⟩
  have kA : Below w1.heap.size w1 (w1.alloc (.cells #[.int .i64 0, .int .i64 0] 37)) := (Below.refl _ _).alloc (Nat.le_refl _) _
  have hsA : (w1.alloc (.cells #[.int .i64 0, .int .i64 0] 37)).heap.size = w1.heap.size + 1 := by simp
  rw [hsA] at h2 k2 ⊢
  have k12 : Below w1.heap.size w1 w2 := kA.trans (k2.mono (by omega))
  have hB2 := hB1.trans (k12.mono hB1.size)
  have hs1 := hB1.size
  have hgpl := HC.out.lt
  have hfl := HFX.out.lt
  have HC2 := Lib.hid (HC.out.below k12 hgpl)
  have HF2 := Lib.hid (HFX.out.below k12 hfl)
  have H2 := Lib.hid h2
  have sg2 := h2.1.lt
  have hgw : w.heap.size ≤ w1.heap.size + 1 := by omega
  have hgg : gp < w1.heap.size + 1 := by omega
  have hgf : w.heap.size < w1.heap.size + 1 := by omega
  clear h2 k2 kA hsA k12 hB1 HC HFX
  generalize w1.heap.size + 1 = g at *
  go_wp2_with fail
  go_loopw [18] (fun i wr => ∃ k : Nat, k ≤ 128 ∧ i = .int .i64 k ∧ (∃ mb, (∀ b, mb = some b → w2.heap.size ≤ b) ∧ RD wr g mb (upto (laid ps m) k)) ∧ Kp [g] w2 wr) (fun i _ => 128 - (intOf i).toNat)
  case atStart => exact ⟨0, by omega, rfl, ⟨none, (fun b e => by cases e), H2.out.1, H2.out.2.congr (fun i hi => by unfold upto; rw [if_neg (by omega)])⟩, Kp.refl _ _⟩
  case round =>
   obtain ⟨k, hk, rfl, ⟨mb, hmb, hRD⟩, hKp⟩ := hrel
   have HRD := Lib.hid hRD
   have HKp := Lib.hid hKp
   have HMB := Lib.hid hmb
   clear hRD hKp hmb
   by_cases hlt : k < 128
   ·have i0 : (0 : Int) ≤ (k : Int) := by omega
    have i1 : (k : Int) < 128 := by omega
    have harr : ∀ (ad : Addr) (c : Nat) (W : World), (Instr.arrayAt 191 (.slice (some ad) 64 c)).run Tryz.prog W = .ok (.pointer (some ad)) W := fun ad c W => by
     simp [Instr.arrayAt, run_underlying Tryz.underlying191]
    have hlen : (k + 1) * 64 - k * 64 = 64 := by omega
    have hCk := HC2.out.kp HKp.out (by simp; omega)
    have hrow : wr.rangeAt gp (k * 64) (bytesOf (fun i => laid ps m (64 * k + i)) 64) := fun j v hv => by
     have hj : j < 64 := by have := (List.getElem?_eq_some_iff.1 hv).1; rwa [bytesOf_len] at this
     rw [bytesOf_at _ 64 j hj] at hv
     injection hv with hv
     subst hv
     rw [hCk.cell, List.getElem?_toArray, show k * 64 + j = 64 * k + j by omega]
     exact HBA.out.2 _ (by omega)
    have HROW := Lib.hid hrow
    have HS : Hid ((Tryz.prog.info? 191).map (·.size) = some (bytesOf (fun i => laid ps m (64 * k + i)) 64).length) := Lib.hid (by rw [bytesOf_len]; exact size88)
    clear hrow hCk
    go_wp2_with (refine wpList_load_mid rfl 191 (.tmp 30) rfl gp (k * 64) (by rfl) (bytesOf (fun i => laid ps m (64 * k + i)) 64) _ HROW.out Tryz.underlying191 rfl HS.out ?_)
    have hput := put_any HRD.out k hlt (fun i => laid ps m (64 * k + i))
    unfold arr at hput
    refine hput.mono ?_
    clear hput
    rintro e w3 ⟨rfl, mb', p1, p2, p3⟩
    have hb' : ∀ b, mb' = some b → w2.heap.size ≤ b := fun b e => by
     rcases p3 with p3 | ⟨b2, p3, p4⟩
     ·rw [p3] at e; exact HMB.out b e
     ·rw [p3] at e; cases e; have := HKp.out.size; omega
    have P1 := Lib.hid p1
    have P2 := Lib.hid (HKp.out.trans p2 (fun x hx => by
     rcases List.mem_cons.1 hx with rfl | hx
     ·exact .inl (by simp)
     ·exact .inr (HMB.out x (by simpa using hx))))
    have HB' := Lib.hid hb'
    clear p1 p2 p3 hb'
    go_wp2_with fail
    go_roundw
    case rel =>
     refine ⟨k + 1, by omega, by go_num, ⟨mb', HB'.out, P1.out.1, P1.out.2.congr fun i hi => ?_⟩, P2.out⟩
     unfold upto fput
     by_cases h1 : 64 * k ≤ i ∧ i < 64 * k + 64
     ·rw [if_pos (by omega), if_pos h1]
      show _ = laid ps m (64 * k + (i - 64 * k))
      congr 1; omega
     ·rw [if_neg h1]
      show _ = if i < 64 * k then laid ps m i else 0
      by_cases h2 : i < 64 * k
      ·rw [if_pos (by omega), if_pos h2]
      ·rw [if_neg (by omega), if_neg h2]
    case measure => simp [intOf]; omega
   ·obtain rfl : k = 128 := by omega
    have hFk := HF2.out.kp HKp.out (by simp; omega)
    have f0 : wr.frozen? ⟨w.heap.size, 0, none⟩ = false := hFk.frozen 0
    have f1 : wr.frozen? ⟨w.heap.size, 1, none⟩ = false := hFk.frozen 1
    have c0 : wr.cell? ⟨w.heap.size, 0, none⟩ = some (.int .i64 0) := hFk.cell 0
    have c1 : wr.cell? ⟨w.heap.size, 1, none⟩ = some (.int .i64 0) := hFk.cell 1
    clear hFk
    go_wp2_with fail
    refine bodyPost_ret (v := .tuple #[.pointer (some ⟨g, 0, none⟩), .agg #[.int .i64 0, .int .i64 0]]) (by simp [results, Tryz.results48, go_sem, c0, c1]) rfl ?_
    have kp : Kp [w.heap.size] wr ((wr.setCell ⟨w.heap.size, 0, none⟩ (.int .i64 0)).setCell ⟨w.heap.size, 1, none⟩ (.int .i64 0)) := ((Kp.refl _ _).setCell (.inl (by simp)) _).setCell (.inl (by simp)) _
    have hB3 := HKp.out.onto hB2 hB2.size (by simpa using hgw)
    have hb2 := hB2.size
    have hR := HRD.out.kp kp (by simp; omega) (fun b e => by have := HMB.out b e; simp; omega)
    refine ⟨kp.onto hB3 hB3.size (by simp), .inr ⟨hall, g, mb, rfl, hgw, fun b e => by have := HMB.out b e; omega, hR.1, hR.2.congr fun i hi => ?_⟩⟩
    unfold upto
    rw [if_pos (by omega)]
end Go.Proofs.YtndhkdcdhpfajaaGreat
namespace Go.Proofs.YtndhkdcdhpfajaaGreat
open Go.RowKit
set_option linter.unusedVariables false
set_option linter.unusedSimpArgs false
set_option maxRecDepth 100000
end Go.Proofs.YtndhkdcdhpfajaaGreat
