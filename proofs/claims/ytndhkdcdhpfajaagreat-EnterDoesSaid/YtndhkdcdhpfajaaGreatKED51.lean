/-
  Texts of these proofs, one behind the other: Ent16, Ent17, Ent18.
-/
import Derived.Test.YtndhkdcdhpfajaaGreatKED40
import Derived.Test.YtndhkdcdhpfajaaGreatKED47
import Derived.Test.YtndhkdcdhpfajaaGreatKED50
import Derived.OpenShut
import Derived.Test.YtndhkdcdhpfajaaGreatKED03
import Derived.Deep.Cut
import Derived.Test.YtndhkdcdhpfajaaGreatKED48
import Derived.Test.YtndhkdcdhpfajaaGreatKED02
namespace Go.Proofs.YtndhkdcdhpfajaaGreat
open Go.RowKit
set_option linter.unusedVariables false
set_option linter.unusedSimpArgs false
set_option maxRecDepth 100000
theorem phI_bd {r : Nat → Int} (hr : StOk r) (a : Int) (a0 : 0 ≤ a) (a1 : a ≤ 65535) : 0 ≤ phI (pgF r) a ∧ phI (pgF r) a ≤ 4294967295 := by
 have := pgF_bd hr (a.toNat / 8192) (by omega)
 unfold phI
 omega
/-- How a bus is behind an access, and what the access answers. -/
def acS (d : Hd) (r : Nat → Int) (s : Bs) (p : Sp) : Bs := if p.wr then s.wrS1 d (phI (pgF r) p.ad) p.dt p.kd else s.rdS1 d (phI (pgF r) p.ad) p.kd
def acV (d : Hd) (r : Nat → Int) (s : Bs) (p : Sp) : Int := if p.wr then 0 else s.rdV1 d (phI (pgF r) p.ad)
def rnS (d : Hd) (r : Nat → Int) (s : Bs) (l : List Sp) : Bs := l.foldl (acS d r) s
def vlS (d : Hd) (r : Nat → Int) : Bs → List Sp → List Int
 | _, [] => []
 | s, p :: l => (if p.kd = 7 then [acV d r s p] else []) ++ vlS d r (acS d r s p) l
theorem rnS_snoc (d : Hd) (r : Nat → Int) (s : Bs) (l : List Sp) (p : Sp) : rnS d r s (l ++ [p]) = acS d r (rnS d r s l) p := by unfold rnS; rw [List.foldl_append]; rfl
theorem vlS_snoc (d : Hd) (r : Nat → Int) : ∀ (l : List Sp) (s : Bs) (p : Sp), vlS d r s (l ++ [p]) = vlS d r s l ++ (if p.kd = 7 then [acV d r (rnS d r s l) p] else [])
 | [], s, p => by simp [vlS, rnS]
 | a :: l, s, p => by
  have ih := vlS_snoc d r l (acS d r s a) p
  simp only [List.cons_append, vlS, ih, List.append_assoc]
  rfl
theorem fit_ac {d : Hd} {r : Nat → Int} {s : Bs} {k : Nat} (h : s.fit k) (p : Sp) : (acS d r s p).fit (k + 1) := by
 unfold acS
 split
 ·exact fit_wr h _ _ _
 ·exact fit_rd h _ _
theorem fit_rn {d : Hd} {r : Nat → Int} : ∀ (l : List Sp) {s : Bs} {k : Nat}, s.fit k → (rnS d r s l).fit (k + l.length)
 | [], s, k, h => h
 | a :: l, s, k, h => by
  have := fit_rn (d := d) (r := r) l (fit_ac (d := d) (r := r) h a)
  rw [show k + (a :: l).length = k + 1 + l.length by simp; omega]
  exact this
structure Sp.ok (p : Sp) : Prop where
 a0 : 0 ≤ p.ad
 a1 : p.ad ≤ 65535
 d0 : 0 ≤ p.dt
 d1 : p.dt ≤ 255
section
variable {w w' : World} {g : Nat} {d : Hd} {P : Bp} {s : Bs} {k : Nat} {r : Nat → Int}
theorem BuR.early {v : Value} {e : Ending} {w2 : World} (hb : Below w.heap.size w w2) (h : BuR v g d P s w2 e w') : BuR v g d P s w e w' := by
 obtain ⟨Q', rfl, h1, k1, fr, e1⟩ := h
 refine ⟨Q', rfl, h1, (Kp.of_below hb).trans k1 (fun x hx => .inl hx), fun y hy => ?_, e1⟩
 rcases fr y hy with h2 | h2
 ·exact .inl h2
 ·exact .inr (Nat.le_trans hb.size h2)
/-- One access on the program's bus. -/
theorem eacc_bu (h : BU w g d P s) (hr : StOk r) (hm : s.room k) (hk : k ≤ 100000) (p : Sp) (hp : p.ok) :
  Calls Tryz.prog 26 #[.pointer (some ⟨g, 0, none⟩), .agg (stA r), .agg (acA p.kd p.ad p.wr p.dt)] w (BuR (.int .u8 (acV d r s p)) g d P (acS d r s p) w) := by
 obtain ⟨b0, b1⟩ := phI_bd hr p.ad hp.a0 hp.a1
 refine (eaccess_any r hr p.kd p.ad p.wr p.dt hp.a0 hp.a1 w (some ⟨g, 0, none⟩) (fun w2 x w' => x = .int .u8 (acV d r s p) ∧ BuR (.int .u8 (acV d r s p)) g d P (acS d r s p) w2 (.returned x) w') (fun hb w2 h2 => ?_) (fun hb w2 h2 => ?_)).mono ?_
 ·have e1 : acS d r s p = s.wrS1 d (phI (pgF r) p.ad) p.dt p.kd := by unfold acS; rw [if_pos hb]
  have e2 : acV d r s p = 0 := by unfold acV; rw [if_pos hb]
  rw [e1, e2]
  refine (bwrite1 (h.keep h2) hm hk (phI (pgF r) p.ad) p.dt p.kd b0 b1 hp.d0 hp.d1).mono ?_
  rintro e w3 ⟨Q', rfl, rest⟩
  exact ⟨rfl, rfl, Q', rfl, rest⟩
 ·have e1 : acS d r s p = s.rdS1 d (phI (pgF r) p.ad) p.kd := by unfold acS; rw [if_neg (by simp [hb])]
  have e2 : acV d r s p = s.rdV1 d (phI (pgF r) p.ad) := by unfold acV; rw [if_neg (by simp [hb])]
  rw [e1, e2]
  refine (bread1 (h.keep h2) hm hk (phI (pgF r) p.ad) p.kd b0 b1).mono ?_
  rintro e w3 ⟨Q', rfl, rest⟩
  exact ⟨_, rfl, rfl, Q', rfl, rest⟩
 ·rintro e w3 ⟨x, w2, rfl, hb, rfl, hR⟩
  exact hR.early hb
theorem bits_byte (op : BinOp) (a b : Int) : 0 ≤ bits op .u8 a b ∧ bits op .u8 a b ≤ 255 := bounds_u8 (wf_bits op .u8 a b)
theorem mixI_byte (v m b : Int) : 0 ≤ mixI v m b ∧ mixI v m b ≤ 255 := bits_byte _ _ _
end
end Go.Proofs.YtndhkdcdhpfajaaGreat
namespace Go.Proofs.YtndhkdcdhpfajaaGreat
open Go.RowKit Go.Shelf
set_option linter.unusedVariables false
set_option linter.unusedSimpArgs false
set_option maxRecDepth 100000
attribute [local go_sem] Oper.semAt_some
/-- The registers through which an entry goes. -/
def thr (k : Nat) (r : Nat → Int) : Nat → Int := if k = 1 then fun i => if i = 13 then 0 else r i else r
theorem thr_ok {k : Nat} {r : Nat → Int} (hr : StOk r) : StOk (thr k r) := fun i hi => by
 unfold thr
 split
 ·dsimp only
  split
  ·subst_vars; decide
  ·exact hr i hi
 ·exact hr i hi
theorem thr_set (r : Nat → Int) : (stA r).setIfInBounds 13 (.int .u8 0) = stA (thr 1 r) := rfl
/-- The plan of an entry. -/
def ePL (k : Nat) (r : Nat → Int) : List Sp := plL k r (flS (flS (r 4) 32 false) 16 false)
theorem ePL_len (k : Nat) (r : Nat → Int) : (ePL k r).length = 8 := rfl
def doR (d : Hd) (k : Nat) (r : Nat → Int) (s : Bs) : Bs := rnS d (thr k r) (s.ent k) (ePL k r)
def doA (d : Hd) (k : Nat) (r : Nat → Int) (s : Bs) : Int := acV d (thr k r) (rnS d (thr k r) (s.ent k) ((ePL k r).take 5)) ⟨7, goAt k, false, 0⟩
def doB (d : Hd) (k : Nat) (r : Nat → Int) (s : Bs) : Int := acV d (thr k r) (rnS d (thr k r) (s.ent k) ((ePL k r).take 6)) ⟨7, goAt k + 1, false, 0⟩
theorem ePL_vals (d : Hd) (k : Nat) (r : Nat → Int) (s : Bs) : vlS d (thr k r) (s.ent k) (ePL k r) = [doA d k r s, doB d k r s] := by
 unfold doA doB ePL
 generalize thr k r = r'
 by_cases h : k = 1
 ·subst h; simp [vlS, rnS, plL, plAe, plP]
 ·simp [vlS, rnS, plL, plAe, plP, h]
theorem ePL_ok (k : Nat) (r : Nat → Int) (hr : StOk r) (hk : 1 ≤ k ∧ k ≤ 5) : ∀ p ∈ ePL k r, p.ok := by
 have q5 : 0 ≤ r 5 ∧ r 5 ≤ 65535 := hr 5 (by omega)
 have q4 : 0 ≤ flS (flS (r 4) 32 false) 16 false ∧ flS (flS (r 4) 32 false) 16 false ≤ 255 := by rw [show flS (flS (r 4) 32 false) 16 false = bits .andNot .u8 (flS (r 4) 32 false) 16 from rfl]; exact bits_byte _ _ _
 intro p hp
 simp only [ePL, plL, plAe, plP, goAt, List.mem_cons, List.not_mem_nil, or_false] at hp
 generalize flS (flS (r 4) 32 false) 16 false = q at *
 rcases hp with rfl | rfl | rfl | rfl | rfl | rfl | rfl | rfl
 all_goals first | (refine ⟨?_, ?_, ?_, ?_⟩ <;> dsimp only <;> omega) | (split <;> refine ⟨?_, ?_, ?_, ?_⟩ <;> dsimp only <;> omega)
section
variable {w w' : World} {g : Nat} {d : Hd} {P : Bp} {s : Bs}
theorem own_blk {B n : Nat} {e size : Nat} {v : Value} {xs : List Value} (own : w.ownsRow B e size v n xs) : ∀ b, v.ownBlock = some b → ∃ cs, Blk w b e cs ∧ B ≤ b := fun b hb => by
 rcases own.2 with ⟨h, _⟩ | ⟨g, cap, cur, h, hg, hgg, _⟩
 ·subst h; cases hb
 ·subst h
  have : g = b := by simpa [Value.ownBlock] using hb
  subst this
  exact ⟨_, hgg, hg⟩
/-- A row of bytes of one's own grows beside a bus. -/
theorem bu_more (h : BU w g d P s) {B n : Nat} {v : Value} {xs : List Value} (own : w.ownsRow B 5 1 v n xs) (hM : ∀ u ∈ [g, P.b.v, P.b.c, P.b.p], u ≤ B) {cs : Array Value} (gb : (w.alloc (.cells cs 5)).grownBy w' v.ownBlock) :
  BU w' g d P s ∧ Kp v.ownBlock.toList w w' := by
 have k1 : Kp v.ownBlock.toList w (w.alloc (.cells cs 5)) := (Kp.refl _ _).alloc _
 have k2 : Kp v.ownBlock.toList (w.alloc (.cells cs 5)) w' := Kp.of_grown gb (fun k hk => by simp [hk])
 have k3 := k1.trans k2 (fun x hx => .inl hx)
 refine ⟨h.kpx k3 (fun y hy => ?_) (fun y hy hy2 => ?_), k3⟩
 ·obtain ⟨cs', hb, hl⟩ := own_blk own y (by simpa using hy)
  exact NBx.of8 hb (fun u hu => Nat.le_trans (hM u hu) hl)
 ·obtain ⟨cs', hb, hl⟩ := own_blk own y (by simpa using hy2)
  exact h.off hb (by decide) (by decide) (by decide) (by decide) (by decide) hy
theorem own_off (h : BU w g d P s) {B n size : Nat} {e : TypeId} {v : Value} {xs : List Value} (own : w.ownsRow B e size v n xs) (h1 : e ≠ 136) (h2 : e ≠ 186) (h3 : e ≠ 109) (h4 : e ≠ 22) (h5 : e ≠ 151) : ∀ b, v.ownBlock = some b → b ∉ bL g P := fun b hb => by
 obtain ⟨cs, hb, _⟩ := own_blk own b hb
 exact h.off hb h1 h2 h3 h4 h5
end
def OkS (d : Hd) (s : Bs) : Prop := s.ok ∧ s.x.ok d
theorem BU.oks {w : World} {g : Nat} {d : Hd} {P : Bp} {s : Bs} (h : BU w g d P s) : OkS d s := by
 obtain ⟨A, c, _, ho⟩ := h.pg
 exact ⟨h.ok, ho.ok⟩
/-- What an entry leaves; and all along it the bus was well. -/
def DoPost (k : Nat) (r : Nat → Int) (g : Nat) (d : Hd) (P : Bp) (s : Bs) (w : World) (e : Ending) (w' : World) : Prop :=
 BuR (.agg (stA (entP k r (wordI (doA d k r s) (doB d k r s))))) g d P (doR d k r s).tn w e w' ∧ ∀ i, i ≤ 8 → OkS d (rnS d (thr k r) (s.ent k) ((ePL k r).take i))
theorem ude_info : (Tryz.prog.info? 5).map (fun i => (i.zero, i.size, i.bytes)) = some (some (.int .u8 0), 1, 1) := by kernel_rfl
set_option maxHeartbeats 16000000 in
theorem edo_one {w : World} {g : Nat} {d : Hd} {P : Bp} {s : Bs} {K : Nat} {r : Nat → Int} (h : BU w g d P s) (hr : StOk r) (hf : s.fit K) (hK : K ≤ 90000) :
  Calls Tryz.prog 13 #[.pointer (some ⟨g, 0, none⟩), .agg (stA r), .int .u8 1] w fun e w' => BuR (.agg (stA (entP 1 r (wordI (doA d 1 r s) (doB d 1 r s))))) g d P (doR d 1 r s).tn w e w' ∧ ∀ i, i ≤ 8 → OkS d (rnS d (thr 1 r) (s.ent 1) ((ePL 1 r).take i)) := by
 have hk : 1 ≤ 1 ∧ 1 ≤ 5 := by decide
 have h8 : ∀ r, (Tryz.prog.info? 32).map (·.size) = some (stA r).size := fun r => by rw [stA_size]; exact size_state
 have H8 := Lib.hid h8
 have HR := Lib.hid hr
 have HF := Lib.hid hf
 have HK := Lib.hid hk
 have hB0 : Below w.heap.size w ((w.alloc (.cells (stA r) 32)).alloc (.cells #[.int .u8 0, .int .u8 0, .int .u8 0, .int .u8 0, .int .u8 0, .int .u16 0, .int .u8 0, .int .u8 0, .int .u8 0, .int .u8 0, .int .u8 0, .int .u8 0, .int .u8 0, .int .u8 0, .int .u8 0, .bool false] 32)) := ((Below.refl _ w).alloc (Nat.le_refl _) _).alloc (by simp) _
 have k0 : Blk ((w.alloc (.cells (stA r) 32)).alloc (.cells #[.int .u8 0, .int .u8 0, .int .u8 0, .int .u8 0, .int .u8 0, .int .u16 0, .int .u8 0, .int .u8 0, .int .u8 0, .int .u8 0, .int .u8 0, .int .u8 0, .int .u8 0, .int .u8 0, .int .u8 0, .bool false] 32)) w.heap.size 32 (stA r) := (Blk.new w _ _).alloc _
 have k1 : Blk ((w.alloc (.cells (stA r) 32)).alloc (.cells #[.int .u8 0, .int .u8 0, .int .u8 0, .int .u8 0, .int .u8 0, .int .u16 0, .int .u8 0, .int .u8 0, .int .u8 0, .int .u8 0, .int .u8 0, .int .u8 0, .int .u8 0, .int .u8 0, .int .u8 0, .bool false] 32)) (w.heap.size + 1) 32 #[.int .u8 0, .int .u8 0, .int .u8 0, .int .u8 0, .int .u8 0, .int .u16 0, .int .u8 0, .int .u8 0, .int .u8 0, .int .u8 0, .int .u8 0, .int .u8 0, .int .u8 0, .int .u8 0, .int .u8 0, .bool false] := by
  have := Blk.new (w.alloc (.cells (stA r) 32)) 32 #[.int .u8 0, .int .u8 0, .int .u8 0, .int .u8 0, .int .u8 0, .int .u16 0, .int .u8 0, .int .u8 0, .int .u8 0, .int .u8 0, .int .u8 0, .int .u8 0, .int .u8 0, .int .u8 0, .int .u8 0, .bool false]
  simpa using this
 have HB0 := Lib.hid hB0
 have K0 := Lib.hid k0
 have K1 := Lib.hid k1
 have BU0 := Lib.hid (h.keep hB0)
 clear h8 hr hf hk hB0 k0 k1 h
 go_enter Tryz.func13, Tryz.ntmps13
 go_upto_region 1 with fail
 generalize ((w.alloc (.cells (stA r) 32)).alloc (.cells #[.int .u8 0, .int .u8 0, .int .u8 0, .int .u8 0, .int .u8 0, .int .u16 0, .int .u8 0, .int .u8 0, .int .u8 0, .int .u8 0, .int .u8 0, .int .u8 0, .int .u8 0, .int .u8 0, .int .u8 0, .bool false] 32)) = w1 at *
 have kk0 := K0.out
 go_upto_region 2 with (first
  | (refine wpList_load_row rfl 32 (.tmp 4) rfl w.heap.size (by rfl) 32 (stA r) (0, 0) _ kk0 Tryz.underlying32 rfl (H8.out r) ?_)
  | (go_at_call 30; refine (eplan_yes 1 r HR.out HK.out _).mono ?_; rintro e w2 ⟨v1, rfl, own, hb⟩))
 obtain ⟨b1, c1, rfl, z8, z9⟩ := own_form own (by omega)
 have O2 : Hid (w2.ownsRow w1.heap.size 70 4 (.slice (some ⟨b1, 0, none⟩) 8 c1) 8 (spL (ePL 1 r))) := Lib.hid own
 have K02 := Lib.hid (K0.out.below hb K0.out.lt)
 have K12 := Lib.hid (K1.out.below hb K1.out.lt)
 have BU2 := Lib.hid (BU0.out.keep hb)
 have HB2 := Lib.hid (HB0.out.trans (hb.mono HB0.out.size))
 clear own hb kk0 z8 z9 K0 K1 BU0 HB0
 go_wp2_with fail
 refine (bentered_any BU2.out 1 (by decide) (by decide)).mono ?_
 rintro e w3 ⟨P3, rfl, b3, kp3, fr3, e31, e32, e33⟩
 have hL3 : ∀ y t cs, Blk w2 y t cs → t = 32 → y ∉ bL g P := fun y t cs hb ht => by subst ht; exact BU2.out.off hb (by decide) (by decide) (by decide) (by decide) (by decide)
 have BU3 := Lib.hid b3
 have K03 := Lib.hid (K02.out.kp kp3 (hL3 _ _ _ K02.out rfl))
 have K13 := Lib.hid (K12.out.kp kp3 (hL3 _ _ _ K12.out rfl))
 have O3 := Lib.hid (own_kp O2.out kp3 (own_off BU2.out O2.out (by decide) (by decide) (by decide) (by decide) (by decide)))
 have CK3 := Lib.hid ((Kp.of_below HB2.out (L := bL g P)).trans kp3 (fun x hx => .inl hx))
 have CF3 := Lib.hid (show ∀ y ∈ bL g P3, y ∈ bL g P ∨ w.heap.size ≤ y from fun y hy => (fr3 y hy).imp id (fun h => Nat.le_trans HB2.out.size h))
 have CE3 := Lib.hid (show P3.p = P.p ∧ P3.b = P.b ∧ P3.m = P.m from ⟨e31, e32, e33⟩)
 clear b3 kp3 fr3 e31 e32 e33 hL3 K02 K12 O2 BU2 HB2
 have kk3 := K03.out
 have hst := (Blk.new w3 32 #[.int .u8 0, .int .u8 0, .int .u8 0, .int .u8 0, .int .u8 0, .int .u16 0, .int .u8 0, .int .u8 0, .int .u8 0, .int .u8 0, .int .u8 0, .int .u8 0, .int .u8 0, .int .u8 0, .int .u8 0, .bool false]).run_store (P := Tryz.prog) (stA r) rfl (stA_one _)
 have hsR := stA_size r
 go_upto_region 6 with (refine wpList_load_row rfl 32 (.tmp 4) rfl w.heap.size (by rfl) 32 (stA r) (0, 0) _ kk3 Tryz.underlying32 rfl (H8.out r) ?_)
 clear hst
 have al := below_setRow ((Below.refl _ w3).alloc (Nat.le_refl _) (.cells #[.int .u8 0, .int .u8 0, .int .u8 0, .int .u8 0, .int .u8 0, .int .u16 0, .int .u8 0, .int .u8 0, .int .u8 0, .int .u8 0, .int .u8 0, .int .u8 0, .int .u8 0, .int .u8 0, .int .u8 0, .bool false] 32)) (Nat.le_refl _) (stA r)
 have K84 := Lib.hid ((Blk.new w3 32 #[.int .u8 0, .int .u8 0, .int .u8 0, .int .u8 0, .int .u8 0, .int .u16 0, .int .u8 0, .int .u8 0, .int .u8 0, .int .u8 0, .int .u8 0, .int .u8 0, .int .u8 0, .int .u8 0, .int .u8 0, .bool false]).row (stA r))
 have K04 := Lib.hid (K03.out.below al K03.out.lt)
 have K14 := Lib.hid (K13.out.below al K13.out.lt)
 have O4 := Lib.hid (own_belowG O3.out al)
 have BU4 := Lib.hid (BU3.out.keep al)
 have CK4 := Lib.hid (CK3.out.trans (Kp.of_below al) (fun x hx => .inl hx))
 have G8 := Lib.hid (show w.heap.size + 1 < w3.heap.size from K13.out.lt)
 have GB8 := Lib.hid ((own_blk O3.out b1 rfl).elim fun cs h => h.1.lt)
 clear al kk3 hsR K03 K13 O3
 generalize World.setRow _ _ _ = w4 at *
 generalize hg8 : w3.heap.size = g8 at *
 have HG8 := Lib.hid hg8
 clear hg8
 have x13 : w4.cell? ⟨g8, 13, none⟩ = some (.int .u8 (r 13)) := K84.out.cell 13
 have y13 : w4.frozen? ⟨g8, 13, none⟩ = false := K84.out.frozen 13
 go_upto_region 8 with fail
 have kx : Kp [g8] w4 (w4.setCell ⟨g8, 13, none⟩ (.int .u8 0)) := (Kp.refl _ _).setCell (.inl (by simp)) _
 have h8n : ∀ y ∈ bL g P3, y ∉ [g8] := fun y hy hy2 => by
  obtain rfl : y = g8 := by simpa using hy2
  exact BU4.out.off K84.out (by decide) (by decide) (by decide) (by decide) (by decide) hy
 have BU5 := Lib.hid (BU4.out.kp kx (fun y hy => by
  obtain rfl : y = g8 := by simpa using hy
  exact NB.of K84.out (by decide) (by decide)) h8n)
 have K85x := Lib.hid (show Blk (w4.setCell ⟨g8, 13, none⟩ (.int .u8 0)) g8 32 (stA (thr 1 r)) from by rw [← thr_set]; exact K84.out.set_ 13 _)
 have K05 := Lib.hid (K04.out.kp kx (by have := G8.out; simp; omega))
 have K15 := Lib.hid (K14.out.kp kx (by have := G8.out; simp; omega))
 have O5 := Lib.hid (own_kp O4.out kx (fun b hb => by have := GB8.out; have e : b1 = b := (by simpa [Value.ownBlock] using hb); rw [← e]; simp; omega))
 have CK5 := Lib.hid (CK4.out.trans kx (fun x hx => .inr (by have := G8.out; have e : x = g8 := (by simpa using hx); omega)))
 clear x13 y13 kx h8n BU4 K84 K04 K14 O4 CK4 CK3
 generalize World.setCell w4 _ _ = w5 at *
 have K85 : Hid (Blk w5 g8 32 (stA (thr 1 r))) := K85x
 clear K85x
 obtain ⟨r', hr'⟩ : ∃ r', thr 1 r = r' := ⟨_, rfl⟩
 have HRp : Hid (StOk r') := Lib.hid (by rw [← hr']; exact thr_ok HR.out)
 have HRQ := Lib.hid hr'
 rw [hr'] at K85
 clear hr'
 obtain ⟨L, hL⟩ : ∃ L, ePL 1 r = L := ⟨_, rfl⟩
 have HLL : Hid (L.length = 8) := Lib.hid (by rw [← hL]; rfl)
 have HLO : Hid (∀ p ∈ L, p.ok) := Lib.hid (by rw [← hL]; exact ePL_ok 1 r HR.out HK.out)
 have HLE := Lib.hid hL
 rw [hL] at O5
 clear hL
 obtain ⟨s1, hs1⟩ : ∃ s1, s.ent 1 = s1 := ⟨_, rfl⟩
 have HS1 := Lib.hid hs1
 have HF1 : Hid (s1.fit (K + 1)) := Lib.hid (by rw [← hs1]; exact fit_ent HF.out _)
 rw [hs1] at BU5
 clear hs1
 go_upto_region 9 with fail
 go_wp2_with fail
 go_loopw [9, 30] (fun v i wr => ∃ j : Nat, j ≤ 8 ∧ i = .int .i64 j ∧ BuR (.tuple #[]) g d P3 (rnS d r' s1 (L.take j)) w5 (.returned (.tuple #[])) wr ∧ wr.ownsRow w5.heap.size 5 1 v (vlS d r' s1 (L.take j)).length ((vlS d r' s1 (L.take j)).map (Value.int .u8)) ∧ (vlS d r' s1 (L.take j)).length ≤ j ∧ ∀ i, i ≤ j → OkS d (rnS d r' s1 (L.take i))) (fun _ i _ => 8 - (intOf i).toNat)
 case atStart => exact ⟨0, by omega, rfl, ⟨P3, rfl, BU5.out, Kp.refl _ _, fun y hy => .inl hy, rfl, rfl, rfl⟩, World.ownsRow_nil _ _ _ _, by simp [vlS], fun i hi => by
  obtain rfl : i = 0 := by omega
  exact BU5.out.oks⟩
 case round =>
  obtain ⟨j, hj, rfl, hbu, own, hlen, hoks⟩ := hrel
  have HOKS := Lib.hid hoks
  clear hoks
  obtain ⟨P6, _, hb6, k6, f6, e61, e62, e63⟩ := hbu
  have hoff : ∀ y t cs, Blk w5 y t cs → t = 32 → y ∉ bL g P3 := fun y t cs hb ht => by subst ht; exact BU5.out.off hb (by decide) (by decide) (by decide) (by decide) (by decide)
  have K06 := Lib.hid (K05.out.kp k6 (hoff _ _ _ K05.out rfl))
  have K16 := Lib.hid (K15.out.kp k6 (hoff _ _ _ K15.out rfl))
  have K86 := Lib.hid (K85.out.kp k6 (hoff _ _ _ K85.out rfl))
  have O6 := Lib.hid (own_kp O5.out k6 (own_off BU5.out O5.out (by decide) (by decide) (by decide) (by decide) (by decide)))
  have BU6 := Lib.hid hb6
  have K6 := Lib.hid k6
  have F6 := Lib.hid f6
  have E6 := Lib.hid (show P6.p = P3.p ∧ P6.b = P3.b ∧ P6.m = P3.m from ⟨e61, e62, e63⟩)
  have OWN := Lib.hid own
  have HLN := Lib.hid hlen
  clear hb6 k6 f6 e61 e62 e63 hoff own hlen
  by_cases hlt : j < 8
  ·obtain ⟨p, hp⟩ : ∃ p, L[j]? = some p := ⟨L[j]'(by rw [HLL.out]; exact hlt), List.getElem?_eq_getElem _⟩
   obtain ⟨q0, q1, q2, q3⟩ := own_at O6.out hp
   have hpo : p.ok := HLO.out p (List.mem_of_getElem? hp)
   have HPO := Lib.hid hpo
   have htk : L.take (j + 1) = L.take j ++ [p] := by rw [List.take_add_one, hp]; rfl
   have hS : rnS d r' s1 (L.take (j + 1)) = acS d r' (rnS d r' s1 (L.take j)) p := by rw [htk, rnS_snoc]
   have hV : vlS d r' s1 (L.take (j + 1)) = vlS d r' s1 (L.take j) ++ (if p.kd = 7 then [acV d r' (rnS d r' s1 (L.take j)) p] else []) := by rw [htk, vlS_snoc]
   have hft : (rnS d r' s1 (L.take j)).fit (K + 1 + (L.take j).length) := fit_rn _ HF1.out
   have hrm : K + 1 + (L.take j).length ≤ 100000 := by rw [List.length_take]; omega
   have HS := Lib.hid hS
   have HV := Lib.hid hV
   have HFT := Lib.hid (And.intro hft.1 hrm)
   clear hp hpo htk hS hV hft hrm
   obtain ⟨sn, hsn⟩ : ∃ sn, rnS d r' s1 (L.take (j + 1)) = sn := ⟨_, rfl⟩
   obtain ⟨vn, hvn⟩ : ∃ vn, vlS d r' s1 (L.take (j + 1)) = vn := ⟨_, rfl⟩
   rw [hsn] at HS
   rw [hvn] at HV
   have HSN := Lib.hid hsn
   have HVN := Lib.hid hvn
   clear hsn hvn
   generalize rnS d r' s1 (L.take j) = sj at *
   generalize vlS d r' s1 (L.take j) = vj at *
   go_upto_region 12 with fail
   have al : Below wr.heap.size wr (wr.alloc (.cells (acA p.kd p.ad p.wr p.dt) 70)) := (Below.refl _ wr).alloc (Nat.le_refl _) _
   have N7 : Hid (Blk (wr.alloc (.cells (acA p.kd p.ad p.wr p.dt) 70)) wr.heap.size 70 (acA p.kd p.ad p.wr p.dt)) := Lib.hid (Blk.new wr _ _)
   have BU7 := Lib.hid (BU6.out.keep al)
   have K87 := Lib.hid (K86.out.below al K86.out.lt)
   have OW7 := Lib.hid (own_belowG OWN.out al)
   have K7 := Lib.hid (K6.out.trans (Kp.of_below al) (fun x hx => .inl hx))
   clear al q0 q1 q2 q3 BU6 K86 K6 OWN
   obtain ⟨wa, hwa⟩ : ∃ wa, wr.alloc (.cells (acA p.kd p.ad p.wr p.dt) 70) = wa := ⟨_, rfl⟩
   have HWA := Lib.hid (show wr.alloc (.cells #[.int .u8 p.kd, .int .u16 p.ad, .bool p.wr, .int .u8 p.dt] 70) = wa from hwa)
   rw [hwa] at N7 BU7 K87 OW7 K7
   clear hwa
   rw [HWA.out]
   clear HWA
   generalize wr.heap.size = gs at *
   have kk7 : wa.heap[g8]? = some (Obj.cells (stA r') 32 (0, 0)) := K87.out
   have kn7 : wa.heap[gs]? = some (Obj.cells (acA p.kd p.ad p.wr p.dt) 70 (0, 0)) := N7.out
   have hsp : (Tryz.prog.info? 70).map (·.size) = some (acA p.kd p.ad p.wr p.dt).size := by kernel_rfl
   have HSP := Lib.hid hsp
   clear hsp
   go_upto_region 13 with (first
    | (refine wpList_load_row rfl 32 (.tmp 8) rfl g8 (by rfl) 32 (stA r') (0, 0) _ kk7 Tryz.underlying32 rfl (H8.out r') ?_)
    | (refine wpList_load_row rfl 70 (.tmp 11) rfl gs (by rfl) 70 (acA p.kd p.ad p.wr p.dt) (0, 0) _ kn7 Tryz.underlying70 rfl HSP.out ?_)
    | (go_at_call 26; refine (eacc_bu BU7.out HRp.out HFT.out.1 HFT.out.2 p HPO.out).mono ?_; rintro e w8 ⟨P8, rfl, b8, k8, f8, e81, e82, e83⟩))
   have N8 := Lib.hid (N7.out.kp k8 (BU7.out.off N7.out (by decide) (by decide) (by decide) (by decide) (by decide)))
   have OW8 := Lib.hid (own_kp OW7.out k8 (own_off BU7.out OW7.out (by decide) (by decide) (by decide) (by decide) (by decide)))
   have K8 := Lib.hid (K7.out.trans k8 (fun x hx => F6.out x hx))
   have F8 := Lib.hid (show ∀ y ∈ bL g P8, y ∈ bL g P3 ∨ w5.heap.size ≤ y from fun y hy => (f8 y hy).elim (fun h => F6.out y h) (fun h => .inr (Nat.le_trans K7.out.size h)))
   have E8 := Lib.hid (show P8.p = P3.p ∧ P8.b = P3.b ∧ P8.m = P3.m from ⟨e81.trans E6.out.1, e82.trans E6.out.2.1, e83.trans E6.out.2.2⟩)
   have BU8 := Lib.hid b8
   rw [← HS.out] at BU8
   clear b8 k8 f8 e81 e82 e83 kk7 kn7 BU7 N7 OW7 K7 F6 E6 K87
   have c0 : w8.cell? ⟨gs, 0, none⟩ = some (.int .u8 p.kd) := N8.out.cell 0
   obtain ⟨n, hn⟩ : ∃ n, vj.length = n := ⟨_, rfl⟩
   have HN := Lib.hid hn
   have hnl : n ≤ j := by rw [← hn]; exact HLN.out
   clear hn
   by_cases h7 : p.kd = 7
   ·have e7 : (p.kd == 7) = true := by simp [h7]
    have H7 := Lib.hid h7
    have hown := OW8.out
    rw [HN.out] at hown
    obtain ⟨x, hx⟩ : ∃ x, acV d r' sj p = x := ⟨_, rfl⟩
    have HX := Lib.hid hx
    rw [hx]
    obtain ⟨v', w', hrun, own', gb⟩ := more_new (P := Tryz.prog) (t := 22) (e := 5) (ty := 22) (c := 1) (m := 1) Tryz.underlying22 ude_info rfl (by decide) hown #[.int .u8 x] rfl (by simp [Value.oneCell']) rfl (by omega) (by omega) K8.out.size
    obtain ⟨b9, k9⟩ := bu_more BU8.out hown (by
     rw [E8.out.2.1]
     intro u hu
     have hl := BU5.out.lt u (by
      simp only [List.mem_cons, List.not_mem_nil, or_false] at hu
      rcases hu with rfl | rfl | rfl | rfl <;> exact mem_bL.2 (by simp))
     omega) gb
    have BU9 := Lib.hid b9
    have K9 := Lib.hid (K8.out.trans k9 (fun y hy => .inr (hown.lt y (by simpa using hy)).1))
    have OW9 := Lib.hid own'
    clear h7 hx hown own' gb b9 k9
    go_wp2_with (at_builtin; refine wpList_append_run rfl (.tmp 41) (.tmp 43) 22 rfl rfl rfl hrun ?_)
    go_roundw
    case rel =>
     have hv := HV.out
     rw [if_pos H7.out, HX.out] at hv
     refine ⟨j + 1, by omega, by go_num, ⟨P8, rfl, by rw [HSN.out]; exact BU9.out, K9.out, F8.out, E8.out⟩, ?_, ?_, fun i hi => ?_⟩
     rotate_left 2
     ·by_cases hij : i ≤ j
      ·exact HOKS.out i hij
      ·obtain rfl : i = j + 1 := by omega
       rw [HSN.out]; exact BU8.out.oks
     all_goals rw [HVN.out]
     ·have h := OW9.out
      rw [hv, List.length_append, List.map_append, HN.out]
      simpa using h
     ·rw [hv, List.length_append]
      have := HN.out
      simp
      omega
    case measure => simp [intOf]; omega
   ·have e7 : (p.kd == 7) = false := by simp [h7]
    have H7 := Lib.hid h7
    clear h7
    go_wp2_with fail
    go_roundw
    case rel =>
     have hv := HV.out
     rw [if_neg H7.out, List.append_nil] at hv
     refine ⟨j + 1, by omega, by go_num, ⟨P8, rfl, by rw [HSN.out]; exact BU8.out, K8.out, F8.out, E8.out⟩, ?_, ?_, fun i hi => ?_⟩
     rotate_left 2
     ·by_cases hij : i ≤ j
      ·exact HOKS.out i hij
      ·obtain rfl : i = j + 1 := by omega
       rw [HSN.out]; exact BU8.out.oks
     all_goals rw [HVN.out]
     ·rw [hv]; exact OW8.out
     ·rw [hv]; have := HN.out; omega
    case measure => simp [intOf]; omega
  ·obtain rfl : j = 8 := by omega
   have ht8 : L.take 8 = L := List.take_of_length_le (by rw [HLL.out]; exact Nat.le_refl _)
   have hvv : vlS d r' s1 L = [doA d 1 r s, doB d 1 r s] := by rw [← HLE.out, ← HRQ.out, ← HS1.out]; exact ePL_vals d 1 r s
   have hss : doR d 1 r s = rnS d r' s1 L := by rw [← HLE.out, ← HRQ.out, ← HS1.out]; rfl
   have hft : (rnS d r' s1 L).fit (K + 1 + L.length) := fit_rn _ HF1.out
   have own := OWN.out
   have bu6 := BU6.out
   rw [ht8] at bu6
   rw [ht8, hvv] at own
   rw [← hss] at bu6 hft
   obtain ⟨bd, cd, rfl, z8, z9⟩ := own_form own (by simp)
   have OW := Lib.hid own
   have B6 := Lib.hid bu6
   have HFT := Lib.hid hft
   clear ht8 hvv hss hft own bu6 z8 z9 hlt hj HLN OWN BU6
   go_wp2_with fail
   refine (bturn_any B6.out HFT.out.2).mono ?_
   rintro e w8 ⟨P8, rfl, b8, k8, f8, e81, e82, e83⟩
   have hoff : ∀ y t cs, Blk wr y t cs → t = 32 → y ∉ bL g P6 := fun y t cs hb ht => by subst ht; exact B6.out.off hb (by decide) (by decide) (by decide) (by decide) (by decide)
   have K08 := Lib.hid (K06.out.kp k8 (hoff _ _ _ K06.out rfl))
   have K18 := Lib.hid (K16.out.kp k8 (hoff _ _ _ K16.out rfl))
   have OW8 := Lib.hid (own_kp OW.out k8 (own_off B6.out OW.out (by decide) (by decide) (by decide) (by decide) (by decide)))
   have K8 := Lib.hid (K6.out.trans k8 (fun x hx => F6.out x hx))
   have F8 := Lib.hid (show ∀ y ∈ bL g P8, y ∈ bL g P3 ∨ w5.heap.size ≤ y from fun y hy => (f8 y hy).elim (fun h => F6.out y h) (fun h => .inr (Nat.le_trans K6.out.size h)))
   have E8 := Lib.hid (show P8.p = P3.p ∧ P8.b = P3.b ∧ P8.m = P3.m from ⟨e81.trans E6.out.1, e82.trans E6.out.2.1, e83.trans E6.out.2.2⟩)
   have BU8 := Lib.hid b8
   clear b8 k8 f8 e81 e82 e83 hoff K06 K16 OW B6 K6 F6 E6 K86 O6
   have hc := OW8.out.cells (g := bd) rfl
   have d0 := hc 0 _ rfl
   have d1 := hc 1 _ rfl
   have ea : ∀ i, (⟨bd, 0, none⟩ : Addr).add i = ⟨bd, i, none⟩ := fun i => by simp [Addr.add]; exact fun h => h.symm
   rw [ea] at d0 d1
   have D0 := Lib.hid (And.intro d0 d1)
   clear hc d0 d1 ea
   obtain ⟨va, hva⟩ : ∃ va, doA d 1 r s = va := ⟨_, rfl⟩
   obtain ⟨vb, hvb⟩ : ∃ vb, doB d 1 r s = vb := ⟨_, rfl⟩
   rw [hva, hvb] at OW8
   rw [hva, hvb] at D0
   have HVA := Lib.hid hva
   have HVB := Lib.hid hvb
   clear hva hvb
   go_upto_region 17 with fail
   refine rg_begin (S := fun w' => Blk w' w.heap.size 32 (stA r) ∧ w'.cell? ⟨bd, 0, none⟩ = some (.int .u8 va) ∧ w'.cell? ⟨bd, 1, none⟩ = some (.int .u8 vb)) 11 #[false, false, false, false, false, false, false, false, false, false, false] (by kernel_rfl) (by kernel_rfl) (by kernel_rfl) ?_ (fun hHeld => ?_)
   ·exact ⟨K08.out.drew_, D0.out⟩
   refine rgu 0 (some 48) rfl ?_
   refine rgt 1 (some 49) (v := .agg (stA r)) rfl ?_ ?_
   ·(intro wS hSw; (try dsimp only at hSw); exact erow_load r rfl rfl hSw.1)
   refine rgu 2 (some 50) rfl ?_
   refine rgu 3 (some 51) rfl ?_
   refine rgu 4 (some 52) rfl ?_
   refine rgu 5 (some 53) rfl ?_
   refine rgu 6 (some 54) rfl ?_
   refine rgu 7 (some 55) rfl ?_
   try simp only [Act.put, List.setIfInBounds_toArray, List.set_cons_zero, List.set_cons_succ]
   refine rg_next (i := 8) (l := #[true, true, true, true, true, true, true, true, true, false, false]) (fuel := 2) (by kernel_rfl) rfl (by kernel_rfl) (by kernel_rfl) (fun K hK => ?_)
   go_simp
   go_at_call 52
   refine (word_any va vb _).mono ?_
   rintro e w' ⟨rfl, rfl⟩
   first | (refine hK.out _ _ ?_ (fun hHeld => ?_)) | (go_wp2_with fail; refine hK.out _ _ ?_ (fun hHeld => ?_))
   ·(try dsimp only); exact ⟨K08.out.drew_, D0.out⟩
   clear hK K
   try simp only [Act.put, List.setIfInBounds_toArray, List.set_cons_zero, List.set_cons_succ]
   refine rg_next (i := 9) (l := #[true, true, true, true, true, true, true, true, true, true, false]) (fuel := 1) (by kernel_rfl) rfl (by kernel_rfl) (by kernel_rfl) (fun K hK => ?_)
   go_simp
   go_at_call 31
   refine (eafter_any 1 r (wordI va vb) _).mono ?_
   rintro e w9 ⟨rfl, hb⟩
   have K19 := Lib.hid (Blk.below (w := w8.drew) K18.out hb (Blk.lt (w := w8) K18.out))
   have K09 := Lib.hid (Blk.below (w := w8.drew) K08.out hb (Blk.lt (w := w8) K08.out))
   have D9 := Lib.hid (And.intro ((hb.cell (p := ⟨bd, 0, none⟩) (cell_lt (w := w8) D0.out.1)).trans D0.out.1) ((hb.cell (p := ⟨bd, 1, none⟩) (cell_lt (w := w8) D0.out.2)).trans D0.out.2))
   have HB9 := Lib.hid hb
   clear hb
   first | (refine hK.out _ _ ?_ (fun hHeld => ?_)) | (go_wp2_with fail; refine hK.out _ _ ?_ (fun hHeld => ?_))
   ·(try dsimp only); exact ⟨K09.out, D9.out⟩
   clear hK K
   try simp only [Act.put, List.setIfInBounds_toArray, List.set_cons_zero, List.set_cons_succ]
   have hst := K19.out.run_store (P := Tryz.prog) (stA (entP 1 r (wordI va vb))) rfl (stA_one _)
   have kz : Kp [w.heap.size + 1] w9 (w9.setRow (w.heap.size + 1) (stA (entP 1 r (wordI va vb)))) := (Kp.refl _ _).setRow (.inl (by simp)) _
   have hbd : bd ≠ w.heap.size + 1 := by
    obtain ⟨cs, hb, _⟩ := own_blk OW8.out bd rfl
    exact hb.ne_ K18.out (by decide)
   have S10 := Lib.hid (show Blk (w9.setRow (w.heap.size + 1) (stA (entP 1 r (wordI va vb)))) w.heap.size 32 (stA r) ∧ (w9.setRow (w.heap.size + 1) (stA (entP 1 r (wordI va vb)))).cell? ⟨bd, 0, none⟩ = some (.int .u8 va) ∧ (w9.setRow (w.heap.size + 1) (stA (entP 1 r (wordI va vb)))).cell? ⟨bd, 1, none⟩ = some (.int .u8 vb) from ⟨K09.out.kp kz (by simp), (kz.cell (p := ⟨bd, 0, none⟩) (cell_lt D9.out.1) (by simpa using hbd)).trans D9.out.1, (kz.cell (p := ⟨bd, 1, none⟩) (cell_lt D9.out.2) (by simpa using hbd)).trans D9.out.2⟩)
   have BU9 := BU.keep (BU8.out.kp0 (Kp.refl [] w8).drew) HB9.out
   have BU10 := Lib.hid (BU9.kp kz (fun y hy => by obtain rfl : y = w.heap.size + 1 := (by simpa using hy); exact NB.of K19.out (by decide) (by decide)) (fun y hy hy2 => by obtain rfl : y = w.heap.size + 1 := (by simpa using hy2); exact BU9.off K19.out (by decide) (by decide) (by decide) (by decide) (by decide) hy))
   have k8w : Kp (bL g P) w w8 := CK5.out.trans K8.out (fun x hx => CF3.out x hx)
   have K10 := Lib.hid (((k8w.drew).trans (Kp.of_below HB9.out) (fun x hx => .inl hx)).trans kz (fun x hx => .inr (by have e : x = w.heap.size + 1 := (by simpa using hx); omega)))
   have F10 := Lib.hid (show ∀ y ∈ bL g P8, y ∈ bL g P ∨ w.heap.size ≤ y from fun y hy => (F8.out y hy).elim (fun h => CF3.out y h) (fun h => .inr (Nat.le_trans CK5.out.size h)))
   have HD := Lib.hid ((K19.out.row (stA (entP 1 r (wordI va vb)))).run_load (P := Tryz.prog) Tryz.underlying32 rfl size_state)
   have E10 := Lib.hid (show P8.p = P.p ∧ P8.b = P.b ∧ P8.m = P.m from ⟨E8.out.1.trans CE3.out.1, E8.out.2.1.trans CE3.out.2.1, E8.out.2.2.trans CE3.out.2.2⟩)
   clear kz hbd BU9 k8w K08 K18 OW8 D0 BU8 K8 F8 E8 HB9
   obtain ⟨E, hE⟩ : ∃ E, entP 1 r (wordI va vb) = E := ⟨_, rfl⟩
   have HEE := Lib.hid hE
   rw [hE] at S10 BU10 K10 HD hst
   first | rw [hE] | rw [show entP ((1 : Nat) : Int) r (wordI va vb) = E from hE]
   clear hE
   refine rg_next (i := 10) (l := #[true, true, true, true, true, true, true, true, true, true, true]) (fuel := 0) (by kernel_rfl) rfl (by kernel_rfl) (by kernel_rfl) (fun K hK => ?_)
   go_simp
   have hsE := stA_size E
   first | (refine hK.out _ _ ?_ (fun hHeld => ?_)) | (go_wp2_with fail; refine hK.out _ _ ?_ (fun hHeld => ?_))
   ·(try dsimp only); exact S10.out
   clear hK K
   try simp only [Act.put, List.setIfInBounds_toArray, List.set_cons_zero, List.set_cons_succ]
   clear hst
   refine wpAnyH_done (by kernel_rfl) ?_ _
   go_wp2_with fail
   (try simp only [Exit.inBlock, Exit.then])
   refine bodyPost_ret (results_cell (a := ⟨w.heap.size + 1, 0, none⟩) Tryz.results13 (by rfl) HD.out) rfl ?_
   refine ⟨⟨P8, by rw [HVA.out, HVB.out, HEE.out], BU10.out, K10.out, F10.out, E10.out⟩, fun i hi => by
    have h := HOKS.out i hi
    rw [← HRQ.out, ← HS1.out, ← HLE.out] at h
    exact h⟩
set_option maxHeartbeats 16000000 in
theorem edo_more {w : World} {g : Nat} {d : Hd} {P : Bp} {s : Bs} {K : Nat} {r : Nat → Int} (k : Nat) (hk2 : 2 ≤ k ∧ k ≤ 5) (h : BU w g d P s) (hr : StOk r) (hf : s.fit K) (hK : K ≤ 90000) :
  Calls Tryz.prog 13 #[.pointer (some ⟨g, 0, none⟩), .agg (stA r), .int .u8 (k : Int)] w fun e w' => BuR (.agg (stA (entP k r (wordI (doA d k r s) (doB d k r s))))) g d P (doR d k r s).tn w e w' ∧ ∀ i, i ≤ 8 → OkS d (rnS d (thr k r) (s.ent k) ((ePL k r).take i)) := by
 have hk : 1 ≤ k ∧ k ≤ 5 := by omega
 have k1e : ((k : Int) == 1) = false := by simp; omega
 have kb : (0 : Int) ≤ k ∧ (k : Int) ≤ 255 := by omega
 have h8 : ∀ r, (Tryz.prog.info? 32).map (·.size) = some (stA r).size := fun r => by rw [stA_size]; exact size_state
 have H8 := Lib.hid h8
 have HR := Lib.hid hr
 have HF := Lib.hid hf
 have HK := Lib.hid hk
 have hB0 : Below w.heap.size w ((w.alloc (.cells (stA r) 32)).alloc (.cells #[.int .u8 0, .int .u8 0, .int .u8 0, .int .u8 0, .int .u8 0, .int .u16 0, .int .u8 0, .int .u8 0, .int .u8 0, .int .u8 0, .int .u8 0, .int .u8 0, .int .u8 0, .int .u8 0, .int .u8 0, .bool false] 32)) := ((Below.refl _ w).alloc (Nat.le_refl _) _).alloc (by simp) _
 have k0 : Blk ((w.alloc (.cells (stA r) 32)).alloc (.cells #[.int .u8 0, .int .u8 0, .int .u8 0, .int .u8 0, .int .u8 0, .int .u16 0, .int .u8 0, .int .u8 0, .int .u8 0, .int .u8 0, .int .u8 0, .int .u8 0, .int .u8 0, .int .u8 0, .int .u8 0, .bool false] 32)) w.heap.size 32 (stA r) := (Blk.new w _ _).alloc _
 have k1 : Blk ((w.alloc (.cells (stA r) 32)).alloc (.cells #[.int .u8 0, .int .u8 0, .int .u8 0, .int .u8 0, .int .u8 0, .int .u16 0, .int .u8 0, .int .u8 0, .int .u8 0, .int .u8 0, .int .u8 0, .int .u8 0, .int .u8 0, .int .u8 0, .int .u8 0, .bool false] 32)) (w.heap.size + 1) 32 #[.int .u8 0, .int .u8 0, .int .u8 0, .int .u8 0, .int .u8 0, .int .u16 0, .int .u8 0, .int .u8 0, .int .u8 0, .int .u8 0, .int .u8 0, .int .u8 0, .int .u8 0, .int .u8 0, .int .u8 0, .bool false] := by
  have := Blk.new (w.alloc (.cells (stA r) 32)) 32 #[.int .u8 0, .int .u8 0, .int .u8 0, .int .u8 0, .int .u8 0, .int .u16 0, .int .u8 0, .int .u8 0, .int .u8 0, .int .u8 0, .int .u8 0, .int .u8 0, .int .u8 0, .int .u8 0, .int .u8 0, .bool false]
  simpa using this
 have HB0 := Lib.hid hB0
 have K0 := Lib.hid k0
 have K1 := Lib.hid k1
 have BU0 := Lib.hid (h.keep hB0)
 clear h8 hr hf hk hB0 k0 k1 h
 go_enter Tryz.func13, Tryz.ntmps13
 go_upto_region 1 with fail
 generalize ((w.alloc (.cells (stA r) 32)).alloc (.cells #[.int .u8 0, .int .u8 0, .int .u8 0, .int .u8 0, .int .u8 0, .int .u16 0, .int .u8 0, .int .u8 0, .int .u8 0, .int .u8 0, .int .u8 0, .int .u8 0, .int .u8 0, .int .u8 0, .int .u8 0, .bool false] 32)) = w1 at *
 have kk0 := K0.out
 go_upto_region 2 with (first
  | (refine wpList_load_row rfl 32 (.tmp 4) rfl w.heap.size (by rfl) 32 (stA r) (0, 0) _ kk0 Tryz.underlying32 rfl (H8.out r) ?_)
  | (go_at_call 30; refine (eplan_yes k r HR.out HK.out _).mono ?_; rintro e w2 ⟨v1, rfl, own, hb⟩))
 obtain ⟨b1, c1, rfl, z8, z9⟩ := own_form own (by omega)
 have O2 : Hid (w2.ownsRow w1.heap.size 70 4 (.slice (some ⟨b1, 0, none⟩) 8 c1) 8 (spL (ePL k r))) := Lib.hid own
 have K02 := Lib.hid (K0.out.below hb K0.out.lt)
 have K12 := Lib.hid (K1.out.below hb K1.out.lt)
 have BU2 := Lib.hid (BU0.out.keep hb)
 have HB2 := Lib.hid (HB0.out.trans (hb.mono HB0.out.size))
 clear own hb kk0 z8 z9 K0 K1 BU0 HB0
 go_wp2_with fail
 refine (bentered_any BU2.out (k : Int) kb.1 kb.2).mono ?_
 rintro e w3 ⟨P3, rfl, b3, kp3, fr3, e31, e32, e33⟩
 have hL3 : ∀ y t cs, Blk w2 y t cs → t = 32 → y ∉ bL g P := fun y t cs hb ht => by subst ht; exact BU2.out.off hb (by decide) (by decide) (by decide) (by decide) (by decide)
 have BU3 := Lib.hid b3
 have K03 := Lib.hid (K02.out.kp kp3 (hL3 _ _ _ K02.out rfl))
 have K13 := Lib.hid (K12.out.kp kp3 (hL3 _ _ _ K12.out rfl))
 have O3 := Lib.hid (own_kp O2.out kp3 (own_off BU2.out O2.out (by decide) (by decide) (by decide) (by decide) (by decide)))
 have CK3 := Lib.hid ((Kp.of_below HB2.out (L := bL g P)).trans kp3 (fun x hx => .inl hx))
 have CF3 := Lib.hid (show ∀ y ∈ bL g P3, y ∈ bL g P ∨ w.heap.size ≤ y from fun y hy => (fr3 y hy).imp id (fun h => Nat.le_trans HB2.out.size h))
 have CE3 := Lib.hid (show P3.p = P.p ∧ P3.b = P.b ∧ P3.m = P.m from ⟨e31, e32, e33⟩)
 clear b3 kp3 fr3 e31 e32 e33 hL3 K02 K12 O2 BU2 HB2
 have kk3 := K03.out
 have hst := (Blk.new w3 32 #[.int .u8 0, .int .u8 0, .int .u8 0, .int .u8 0, .int .u8 0, .int .u16 0, .int .u8 0, .int .u8 0, .int .u8 0, .int .u8 0, .int .u8 0, .int .u8 0, .int .u8 0, .int .u8 0, .int .u8 0, .bool false]).run_store (P := Tryz.prog) (stA r) rfl (stA_one _)
 have hsR := stA_size r
 go_upto_region 6 with (refine wpList_load_row rfl 32 (.tmp 4) rfl w.heap.size (by rfl) 32 (stA r) (0, 0) _ kk3 Tryz.underlying32 rfl (H8.out r) ?_)
 clear hst
 have al := below_setRow ((Below.refl _ w3).alloc (Nat.le_refl _) (.cells #[.int .u8 0, .int .u8 0, .int .u8 0, .int .u8 0, .int .u8 0, .int .u16 0, .int .u8 0, .int .u8 0, .int .u8 0, .int .u8 0, .int .u8 0, .int .u8 0, .int .u8 0, .int .u8 0, .int .u8 0, .bool false] 32)) (Nat.le_refl _) (stA r)
 have K84 := Lib.hid ((Blk.new w3 32 #[.int .u8 0, .int .u8 0, .int .u8 0, .int .u8 0, .int .u8 0, .int .u16 0, .int .u8 0, .int .u8 0, .int .u8 0, .int .u8 0, .int .u8 0, .int .u8 0, .int .u8 0, .int .u8 0, .int .u8 0, .bool false]).row (stA r))
 have K04 := Lib.hid (K03.out.below al K03.out.lt)
 have K14 := Lib.hid (K13.out.below al K13.out.lt)
 have O4 := Lib.hid (own_belowG O3.out al)
 have BU4 := Lib.hid (BU3.out.keep al)
 have CK4 := Lib.hid (CK3.out.trans (Kp.of_below al) (fun x hx => .inl hx))
 have G8 := Lib.hid (show w.heap.size + 1 < w3.heap.size from K13.out.lt)
 have GB8 := Lib.hid ((own_blk O3.out b1 rfl).elim fun cs h => h.1.lt)
 clear al kk3 hsR K03 K13 O3
 generalize World.setRow _ _ _ = w4 at *
 generalize hg8 : w3.heap.size = g8 at *
 have HG8 := Lib.hid hg8
 clear hg8
 have BU5 := BU4
 have K85x : Hid (Blk w4 g8 32 (stA (thr k r))) := Lib.hid (by rw [show thr k r = r from if_neg (by omega)]; exact K84.out)
 have K05 := K04
 have K15 := K14
 have O5 := O4
 have CK5 := CK4
 clear BU4 K84 K04 K14 O4 CK4 CK3
 generalize w4 = w5 at *
 have K85 : Hid (Blk w5 g8 32 (stA (thr k r))) := K85x
 clear K85x
 obtain ⟨r', hr'⟩ : ∃ r', thr k r = r' := ⟨_, rfl⟩
 have HRp : Hid (StOk r') := Lib.hid (by rw [← hr']; exact thr_ok HR.out)
 have HRQ := Lib.hid hr'
 rw [hr'] at K85
 clear hr'
 obtain ⟨L, hL⟩ : ∃ L, ePL k r = L := ⟨_, rfl⟩
 have HLL : Hid (L.length = 8) := Lib.hid (by rw [← hL]; rfl)
 have HLO : Hid (∀ p ∈ L, p.ok) := Lib.hid (by rw [← hL]; exact ePL_ok k r HR.out HK.out)
 have HLE := Lib.hid hL
 rw [hL] at O5
 clear hL
 obtain ⟨s1, hs1⟩ : ∃ s1, s.ent k = s1 := ⟨_, rfl⟩
 have HS1 := Lib.hid hs1
 have HF1 : Hid (s1.fit (K + 1)) := Lib.hid (by rw [← hs1]; exact fit_ent HF.out _)
 rw [hs1] at BU5
 clear hs1
 go_upto_region 9 with fail
 go_wp2_with fail
 go_loopw [9, 30] (fun v i wr => ∃ j : Nat, j ≤ 8 ∧ i = .int .i64 j ∧ BuR (.tuple #[]) g d P3 (rnS d r' s1 (L.take j)) w5 (.returned (.tuple #[])) wr ∧ wr.ownsRow w5.heap.size 5 1 v (vlS d r' s1 (L.take j)).length ((vlS d r' s1 (L.take j)).map (Value.int .u8)) ∧ (vlS d r' s1 (L.take j)).length ≤ j ∧ ∀ i, i ≤ j → OkS d (rnS d r' s1 (L.take i))) (fun _ i _ => 8 - (intOf i).toNat)
 case atStart => exact ⟨0, by omega, rfl, ⟨P3, rfl, BU5.out, Kp.refl _ _, fun y hy => .inl hy, rfl, rfl, rfl⟩, World.ownsRow_nil _ _ _ _, by simp [vlS], fun i hi => by
  obtain rfl : i = 0 := by omega
  exact BU5.out.oks⟩
 case round =>
  obtain ⟨j, hj, rfl, hbu, own, hlen, hoks⟩ := hrel
  have HOKS := Lib.hid hoks
  clear hoks
  obtain ⟨P6, _, hb6, k6, f6, e61, e62, e63⟩ := hbu
  have hoff : ∀ y t cs, Blk w5 y t cs → t = 32 → y ∉ bL g P3 := fun y t cs hb ht => by subst ht; exact BU5.out.off hb (by decide) (by decide) (by decide) (by decide) (by decide)
  have K06 := Lib.hid (K05.out.kp k6 (hoff _ _ _ K05.out rfl))
  have K16 := Lib.hid (K15.out.kp k6 (hoff _ _ _ K15.out rfl))
  have K86 := Lib.hid (K85.out.kp k6 (hoff _ _ _ K85.out rfl))
  have O6 := Lib.hid (own_kp O5.out k6 (own_off BU5.out O5.out (by decide) (by decide) (by decide) (by decide) (by decide)))
  have BU6 := Lib.hid hb6
  have K6 := Lib.hid k6
  have F6 := Lib.hid f6
  have E6 := Lib.hid (show P6.p = P3.p ∧ P6.b = P3.b ∧ P6.m = P3.m from ⟨e61, e62, e63⟩)
  have OWN := Lib.hid own
  have HLN := Lib.hid hlen
  clear hb6 k6 f6 e61 e62 e63 hoff own hlen
  by_cases hlt : j < 8
  ·obtain ⟨p, hp⟩ : ∃ p, L[j]? = some p := ⟨L[j]'(by rw [HLL.out]; exact hlt), List.getElem?_eq_getElem _⟩
   obtain ⟨q0, q1, q2, q3⟩ := own_at O6.out hp
   have hpo : p.ok := HLO.out p (List.mem_of_getElem? hp)
   have HPO := Lib.hid hpo
   have htk : L.take (j + 1) = L.take j ++ [p] := by rw [List.take_add_one, hp]; rfl
   have hS : rnS d r' s1 (L.take (j + 1)) = acS d r' (rnS d r' s1 (L.take j)) p := by rw [htk, rnS_snoc]
   have hV : vlS d r' s1 (L.take (j + 1)) = vlS d r' s1 (L.take j) ++ (if p.kd = 7 then [acV d r' (rnS d r' s1 (L.take j)) p] else []) := by rw [htk, vlS_snoc]
   have hft : (rnS d r' s1 (L.take j)).fit (K + 1 + (L.take j).length) := fit_rn _ HF1.out
   have hrm : K + 1 + (L.take j).length ≤ 100000 := by rw [List.length_take]; omega
   have HS := Lib.hid hS
   have HV := Lib.hid hV
   have HFT := Lib.hid (And.intro hft.1 hrm)
   clear hp hpo htk hS hV hft hrm
   obtain ⟨sn, hsn⟩ : ∃ sn, rnS d r' s1 (L.take (j + 1)) = sn := ⟨_, rfl⟩
   obtain ⟨vn, hvn⟩ : ∃ vn, vlS d r' s1 (L.take (j + 1)) = vn := ⟨_, rfl⟩
   rw [hsn] at HS
   rw [hvn] at HV
   have HSN := Lib.hid hsn
   have HVN := Lib.hid hvn
   clear hsn hvn
   generalize rnS d r' s1 (L.take j) = sj at *
   generalize vlS d r' s1 (L.take j) = vj at *
   go_upto_region 12 with fail
   have al : Below wr.heap.size wr (wr.alloc (.cells (acA p.kd p.ad p.wr p.dt) 70)) := (Below.refl _ wr).alloc (Nat.le_refl _) _
   have N7 : Hid (Blk (wr.alloc (.cells (acA p.kd p.ad p.wr p.dt) 70)) wr.heap.size 70 (acA p.kd p.ad p.wr p.dt)) := Lib.hid (Blk.new wr _ _)
   have BU7 := Lib.hid (BU6.out.keep al)
   have K87 := Lib.hid (K86.out.below al K86.out.lt)
   have OW7 := Lib.hid (own_belowG OWN.out al)
   have K7 := Lib.hid (K6.out.trans (Kp.of_below al) (fun x hx => .inl hx))
   clear al q0 q1 q2 q3 BU6 K86 K6 OWN
   obtain ⟨wa, hwa⟩ : ∃ wa, wr.alloc (.cells (acA p.kd p.ad p.wr p.dt) 70) = wa := ⟨_, rfl⟩
   have HWA := Lib.hid (show wr.alloc (.cells #[.int .u8 p.kd, .int .u16 p.ad, .bool p.wr, .int .u8 p.dt] 70) = wa from hwa)
   rw [hwa] at N7 BU7 K87 OW7 K7
   clear hwa
   rw [HWA.out]
   clear HWA
   generalize wr.heap.size = gs at *
   have kk7 : wa.heap[g8]? = some (Obj.cells (stA r') 32 (0, 0)) := K87.out
   have kn7 : wa.heap[gs]? = some (Obj.cells (acA p.kd p.ad p.wr p.dt) 70 (0, 0)) := N7.out
   have hsp : (Tryz.prog.info? 70).map (·.size) = some (acA p.kd p.ad p.wr p.dt).size := by kernel_rfl
   have HSP := Lib.hid hsp
   clear hsp
   go_upto_region 13 with (first
    | (refine wpList_load_row rfl 32 (.tmp 8) rfl g8 (by rfl) 32 (stA r') (0, 0) _ kk7 Tryz.underlying32 rfl (H8.out r') ?_)
    | (refine wpList_load_row rfl 70 (.tmp 11) rfl gs (by rfl) 70 (acA p.kd p.ad p.wr p.dt) (0, 0) _ kn7 Tryz.underlying70 rfl HSP.out ?_)
    | (go_at_call 26; refine (eacc_bu BU7.out HRp.out HFT.out.1 HFT.out.2 p HPO.out).mono ?_; rintro e w8 ⟨P8, rfl, b8, k8, f8, e81, e82, e83⟩))
   have N8 := Lib.hid (N7.out.kp k8 (BU7.out.off N7.out (by decide) (by decide) (by decide) (by decide) (by decide)))
   have OW8 := Lib.hid (own_kp OW7.out k8 (own_off BU7.out OW7.out (by decide) (by decide) (by decide) (by decide) (by decide)))
   have K8 := Lib.hid (K7.out.trans k8 (fun x hx => F6.out x hx))
   have F8 := Lib.hid (show ∀ y ∈ bL g P8, y ∈ bL g P3 ∨ w5.heap.size ≤ y from fun y hy => (f8 y hy).elim (fun h => F6.out y h) (fun h => .inr (Nat.le_trans K7.out.size h)))
   have E8 := Lib.hid (show P8.p = P3.p ∧ P8.b = P3.b ∧ P8.m = P3.m from ⟨e81.trans E6.out.1, e82.trans E6.out.2.1, e83.trans E6.out.2.2⟩)
   have BU8 := Lib.hid b8
   rw [← HS.out] at BU8
   clear b8 k8 f8 e81 e82 e83 kk7 kn7 BU7 N7 OW7 K7 F6 E6 K87
   have c0 : w8.cell? ⟨gs, 0, none⟩ = some (.int .u8 p.kd) := N8.out.cell 0
   obtain ⟨n, hn⟩ : ∃ n, vj.length = n := ⟨_, rfl⟩
   have HN := Lib.hid hn
   have hnl : n ≤ j := by rw [← hn]; exact HLN.out
   clear hn
   by_cases h7 : p.kd = 7
   ·have e7 : (p.kd == 7) = true := by simp [h7]
    have H7 := Lib.hid h7
    have hown := OW8.out
    rw [HN.out] at hown
    obtain ⟨x, hx⟩ : ∃ x, acV d r' sj p = x := ⟨_, rfl⟩
    have HX := Lib.hid hx
    rw [hx]
    obtain ⟨v', w', hrun, own', gb⟩ := more_new (P := Tryz.prog) (t := 22) (e := 5) (ty := 22) (c := 1) (m := 1) Tryz.underlying22 ude_info rfl (by decide) hown #[.int .u8 x] rfl (by simp [Value.oneCell']) rfl (by omega) (by omega) K8.out.size
    obtain ⟨b9, k9⟩ := bu_more BU8.out hown (by
     rw [E8.out.2.1]
     intro u hu
     have hl := BU5.out.lt u (by
      simp only [List.mem_cons, List.not_mem_nil, or_false] at hu
      rcases hu with rfl | rfl | rfl | rfl <;> exact mem_bL.2 (by simp))
     omega) gb
    have BU9 := Lib.hid b9
    have K9 := Lib.hid (K8.out.trans k9 (fun y hy => .inr (hown.lt y (by simpa using hy)).1))
    have OW9 := Lib.hid own'
    clear h7 hx hown own' gb b9 k9
    go_wp2_with (at_builtin; refine wpList_append_run rfl (.tmp 41) (.tmp 43) 22 rfl rfl rfl hrun ?_)
    go_roundw
    case rel =>
     have hv := HV.out
     rw [if_pos H7.out, HX.out] at hv
     refine ⟨j + 1, by omega, by go_num, ⟨P8, rfl, by rw [HSN.out]; exact BU9.out, K9.out, F8.out, E8.out⟩, ?_, ?_, fun i hi => ?_⟩
     rotate_left 2
     ·by_cases hij : i ≤ j
      ·exact HOKS.out i hij
      ·obtain rfl : i = j + 1 := by omega
       rw [HSN.out]; exact BU8.out.oks
     all_goals rw [HVN.out]
     ·have h := OW9.out
      rw [hv, List.length_append, List.map_append, HN.out]
      simpa using h
     ·rw [hv, List.length_append]
      have := HN.out
      simp
      omega
    case measure => simp [intOf]; omega
   ·have e7 : (p.kd == 7) = false := by simp [h7]
    have H7 := Lib.hid h7
    clear h7
    go_wp2_with fail
    go_roundw
    case rel =>
     have hv := HV.out
     rw [if_neg H7.out, List.append_nil] at hv
     refine ⟨j + 1, by omega, by go_num, ⟨P8, rfl, by rw [HSN.out]; exact BU8.out, K8.out, F8.out, E8.out⟩, ?_, ?_, fun i hi => ?_⟩
     rotate_left 2
     ·by_cases hij : i ≤ j
      ·exact HOKS.out i hij
      ·obtain rfl : i = j + 1 := by omega
       rw [HSN.out]; exact BU8.out.oks
     all_goals rw [HVN.out]
     ·rw [hv]; exact OW8.out
     ·rw [hv]; have := HN.out; omega
    case measure => simp [intOf]; omega
  ·obtain rfl : j = 8 := by omega
   have ht8 : L.take 8 = L := List.take_of_length_le (by rw [HLL.out]; exact Nat.le_refl _)
   have hvv : vlS d r' s1 L = [doA d k r s, doB d k r s] := by rw [← HLE.out, ← HRQ.out, ← HS1.out]; exact ePL_vals d k r s
   have hss : doR d k r s = rnS d r' s1 L := by rw [← HLE.out, ← HRQ.out, ← HS1.out]; rfl
   have hft : (rnS d r' s1 L).fit (K + 1 + L.length) := fit_rn _ HF1.out
   have own := OWN.out
   have bu6 := BU6.out
   rw [ht8] at bu6
   rw [ht8, hvv] at own
   rw [← hss] at bu6 hft
   obtain ⟨bd, cd, rfl, z8, z9⟩ := own_form own (by simp)
   have OW := Lib.hid own
   have B6 := Lib.hid bu6
   have HFT := Lib.hid hft
   clear ht8 hvv hss hft own bu6 z8 z9 hlt hj HLN OWN BU6
   go_wp2_with fail
   refine (bturn_any B6.out HFT.out.2).mono ?_
   rintro e w8 ⟨P8, rfl, b8, k8, f8, e81, e82, e83⟩
   have hoff : ∀ y t cs, Blk wr y t cs → t = 32 → y ∉ bL g P6 := fun y t cs hb ht => by subst ht; exact B6.out.off hb (by decide) (by decide) (by decide) (by decide) (by decide)
   have K08 := Lib.hid (K06.out.kp k8 (hoff _ _ _ K06.out rfl))
   have K18 := Lib.hid (K16.out.kp k8 (hoff _ _ _ K16.out rfl))
   have OW8 := Lib.hid (own_kp OW.out k8 (own_off B6.out OW.out (by decide) (by decide) (by decide) (by decide) (by decide)))
   have K8 := Lib.hid (K6.out.trans k8 (fun x hx => F6.out x hx))
   have F8 := Lib.hid (show ∀ y ∈ bL g P8, y ∈ bL g P3 ∨ w5.heap.size ≤ y from fun y hy => (f8 y hy).elim (fun h => F6.out y h) (fun h => .inr (Nat.le_trans K6.out.size h)))
   have E8 := Lib.hid (show P8.p = P3.p ∧ P8.b = P3.b ∧ P8.m = P3.m from ⟨e81.trans E6.out.1, e82.trans E6.out.2.1, e83.trans E6.out.2.2⟩)
   have BU8 := Lib.hid b8
   clear b8 k8 f8 e81 e82 e83 hoff K06 K16 OW B6 K6 F6 E6 K86 O6
   have hc := OW8.out.cells (g := bd) rfl
   have d0 := hc 0 _ rfl
   have d1 := hc 1 _ rfl
   have ea : ∀ i, (⟨bd, 0, none⟩ : Addr).add i = ⟨bd, i, none⟩ := fun i => by simp [Addr.add]; exact fun h => h.symm
   rw [ea] at d0 d1
   have D0 := Lib.hid (And.intro d0 d1)
   clear hc d0 d1 ea
   obtain ⟨va, hva⟩ : ∃ va, doA d k r s = va := ⟨_, rfl⟩
   obtain ⟨vb, hvb⟩ : ∃ vb, doB d k r s = vb := ⟨_, rfl⟩
   rw [hva, hvb] at OW8
   rw [hva, hvb] at D0
   have HVA := Lib.hid hva
   have HVB := Lib.hid hvb
   clear hva hvb
   go_upto_region 17 with fail
   refine rg_begin (S := fun w' => Blk w' w.heap.size 32 (stA r) ∧ w'.cell? ⟨bd, 0, none⟩ = some (.int .u8 va) ∧ w'.cell? ⟨bd, 1, none⟩ = some (.int .u8 vb)) 11 #[false, false, false, false, false, false, false, false, false, false, false] (by kernel_rfl) (by kernel_rfl) (by kernel_rfl) ?_ (fun hHeld => ?_)
   ·exact ⟨K08.out.drew_, D0.out⟩
   refine rgu 0 (some 48) rfl ?_
   refine rgt 1 (some 49) (v := .agg (stA r)) rfl ?_ ?_
   ·(intro wS hSw; (try dsimp only at hSw); exact erow_load r rfl rfl hSw.1)
   refine rgu 2 (some 50) rfl ?_
   refine rgu 3 (some 51) rfl ?_
   refine rgu 4 (some 52) rfl ?_
   refine rgu 5 (some 53) rfl ?_
   refine rgu 6 (some 54) rfl ?_
   refine rgu 7 (some 55) rfl ?_
   try simp only [Act.put, List.setIfInBounds_toArray, List.set_cons_zero, List.set_cons_succ]
   refine rg_next (i := 8) (l := #[true, true, true, true, true, true, true, true, true, false, false]) (fuel := 2) (by kernel_rfl) rfl (by kernel_rfl) (by kernel_rfl) (fun K hK => ?_)
   go_simp
   go_at_call 52
   refine (word_any va vb _).mono ?_
   rintro e w' ⟨rfl, rfl⟩
   first | (refine hK.out _ _ ?_ (fun hHeld => ?_)) | (go_wp2_with fail; refine hK.out _ _ ?_ (fun hHeld => ?_))
   ·(try dsimp only); exact ⟨K08.out.drew_, D0.out⟩
   clear hK K
   try simp only [Act.put, List.setIfInBounds_toArray, List.set_cons_zero, List.set_cons_succ]
   refine rg_next (i := 9) (l := #[true, true, true, true, true, true, true, true, true, true, false]) (fuel := 1) (by kernel_rfl) rfl (by kernel_rfl) (by kernel_rfl) (fun K hK => ?_)
   go_simp
   go_at_call 31
   refine (eafter_any k r (wordI va vb) _).mono ?_
   rintro e w9 ⟨rfl, hb⟩
   have K19 := Lib.hid (Blk.below (w := w8.drew) K18.out hb (Blk.lt (w := w8) K18.out))
   have K09 := Lib.hid (Blk.below (w := w8.drew) K08.out hb (Blk.lt (w := w8) K08.out))
   have D9 := Lib.hid (And.intro ((hb.cell (p := ⟨bd, 0, none⟩) (cell_lt (w := w8) D0.out.1)).trans D0.out.1) ((hb.cell (p := ⟨bd, 1, none⟩) (cell_lt (w := w8) D0.out.2)).trans D0.out.2))
   have HB9 := Lib.hid hb
   clear hb
   first | (refine hK.out _ _ ?_ (fun hHeld => ?_)) | (go_wp2_with fail; refine hK.out _ _ ?_ (fun hHeld => ?_))
   ·(try dsimp only); exact ⟨K09.out, D9.out⟩
   clear hK K
   try simp only [Act.put, List.setIfInBounds_toArray, List.set_cons_zero, List.set_cons_succ]
   have hst := K19.out.run_store (P := Tryz.prog) (stA (entP k r (wordI va vb))) rfl (stA_one _)
   have kz : Kp [w.heap.size + 1] w9 (w9.setRow (w.heap.size + 1) (stA (entP k r (wordI va vb)))) := (Kp.refl _ _).setRow (.inl (by simp)) _
   have hbd : bd ≠ w.heap.size + 1 := by
    obtain ⟨cs, hb, _⟩ := own_blk OW8.out bd rfl
    exact hb.ne_ K18.out (by decide)
   have S10 := Lib.hid (show Blk (w9.setRow (w.heap.size + 1) (stA (entP k r (wordI va vb)))) w.heap.size 32 (stA r) ∧ (w9.setRow (w.heap.size + 1) (stA (entP k r (wordI va vb)))).cell? ⟨bd, 0, none⟩ = some (.int .u8 va) ∧ (w9.setRow (w.heap.size + 1) (stA (entP k r (wordI va vb)))).cell? ⟨bd, 1, none⟩ = some (.int .u8 vb) from ⟨K09.out.kp kz (by simp), (kz.cell (p := ⟨bd, 0, none⟩) (cell_lt D9.out.1) (by simpa using hbd)).trans D9.out.1, (kz.cell (p := ⟨bd, 1, none⟩) (cell_lt D9.out.2) (by simpa using hbd)).trans D9.out.2⟩)
   have BU9 := BU.keep (BU8.out.kp0 (Kp.refl [] w8).drew) HB9.out
   have BU10 := Lib.hid (BU9.kp kz (fun y hy => by obtain rfl : y = w.heap.size + 1 := (by simpa using hy); exact NB.of K19.out (by decide) (by decide)) (fun y hy hy2 => by obtain rfl : y = w.heap.size + 1 := (by simpa using hy2); exact BU9.off K19.out (by decide) (by decide) (by decide) (by decide) (by decide) hy))
   have k8w : Kp (bL g P) w w8 := CK5.out.trans K8.out (fun x hx => CF3.out x hx)
   have K10 := Lib.hid (((k8w.drew).trans (Kp.of_below HB9.out) (fun x hx => .inl hx)).trans kz (fun x hx => .inr (by have e : x = w.heap.size + 1 := (by simpa using hx); omega)))
   have F10 := Lib.hid (show ∀ y ∈ bL g P8, y ∈ bL g P ∨ w.heap.size ≤ y from fun y hy => (F8.out y hy).elim (fun h => CF3.out y h) (fun h => .inr (Nat.le_trans CK5.out.size h)))
   have HD := Lib.hid ((K19.out.row (stA (entP k r (wordI va vb)))).run_load (P := Tryz.prog) Tryz.underlying32 rfl size_state)
   have E10 := Lib.hid (show P8.p = P.p ∧ P8.b = P.b ∧ P8.m = P.m from ⟨E8.out.1.trans CE3.out.1, E8.out.2.1.trans CE3.out.2.1, E8.out.2.2.trans CE3.out.2.2⟩)
   clear kz hbd BU9 k8w K08 K18 OW8 D0 BU8 K8 F8 E8 HB9
   obtain ⟨E, hE⟩ : ∃ E, entP k r (wordI va vb) = E := ⟨_, rfl⟩
   have HEE := Lib.hid hE
   rw [hE] at S10 BU10 K10 HD hst
   first | rw [hE] | rw [show entP ((1 : Nat) : Int) r (wordI va vb) = E from hE]
   clear hE
   refine rg_next (i := 10) (l := #[true, true, true, true, true, true, true, true, true, true, true]) (fuel := 0) (by kernel_rfl) rfl (by kernel_rfl) (by kernel_rfl) (fun K hK => ?_)
   go_simp
   have hsE := stA_size E
   first | (refine hK.out _ _ ?_ (fun hHeld => ?_)) | (go_wp2_with fail; refine hK.out _ _ ?_ (fun hHeld => ?_))
   ·(try dsimp only); exact S10.out
   clear hK K
   try simp only [Act.put, List.setIfInBounds_toArray, List.set_cons_zero, List.set_cons_succ]
   clear hst
   refine wpAnyH_done (by kernel_rfl) ?_ _
   go_wp2_with fail
   (try simp only [Exit.inBlock, Exit.then])
   refine bodyPost_ret (results_cell (a := ⟨w.heap.size + 1, 0, none⟩) Tryz.results13 (by rfl) HD.out) rfl ?_
   refine ⟨⟨P8, by rw [HVA.out, HVB.out, HEE.out], BU10.out, K10.out, F10.out, E10.out⟩, fun i hi => by
    have h := HOKS.out i hi
    rw [← HRQ.out, ← HS1.out, ← HLE.out] at h
    exact h⟩
theorem edo_bu {w : World} {g : Nat} {d : Hd} {P : Bp} {s : Bs} {K : Nat} {r : Nat → Int} (k : Nat) (hk : 1 ≤ k ∧ k ≤ 5) (h : BU w g d P s) (hr : StOk r) (hf : s.fit K) (hK : K ≤ 90000) :
  Calls Tryz.prog 13 #[.pointer (some ⟨g, 0, none⟩), .agg (stA r), .int .u8 (k : Int)] w (DoPost k r g d P s w) := by
 by_cases h1 : k = 1
 ·subst h1; exact edo_one h hr hf hK
 ·exact edo_more k (by omega) h hr hf hK
end Go.Proofs.YtndhkdcdhpfajaaGreat
namespace Go.Proofs.YtndhkdcdhpfajaaGreat
open Go.RowKit Go.Shelf
set_option linter.unusedVariables false
set_option linter.unusedSimpArgs false
set_option maxRecDepth 100000
attribute [local go_sem] Oper.semAt_some
section
variable {W w w' : World} {g : Nat} {d : Hd} {Q : Rbp} {s : Bs} {nx : Bool}
theorem peekI_row {w : World} {A : Option Addr} {n : Nat} {z : Nat → Int} (h : IRow w .u8 A n z) (t : Nat) : 0 ≤ peekI (n - t) (fun i => z (t + i)) 0 ∧ peekI (n - t) (fun i => z (t + i)) 0 ≤ 255 := by
 unfold peekI
 split
 ·rename_i hc
  obtain ⟨_, _, _, _, hw⟩ := h (t + 0) (by omega)
  exact bounds_u8 hw
 ·decide
/-- What is read is a byte. -/
theorem rbV1_byte {s0 : Bs} (h : RBU W w g d Q s0 nx) (hrv : s.rn = s0.rn ∧ s.rz = s0.rz) (C : HC W d Q.Z) (ho : OkS d s) (a : Int) : 0 ≤ s.rdV1 d a ∧ s.rdV1 d a ≤ 255 := by
 obtain ⟨hok, hxo⟩ := ho
 unfold Bs.rdV1
 split
 ·decide
 unfold Bs.rdV Bs.an
 split
 ·have hx := Hp.ok_to hxo s.now
  have e1 : (s.x.to d s.now).tv = s.x.tv := by unfold Hp.to; split <;> rfl
  have e2 : (s.x.to d s.now).tc = s.x.tc := by unfold Hp.to; split <;> rfl
  show 0 ≤ (s.x.to d s.now).rv d _ _ ∧ (s.x.to d s.now).rv d _ _ ≤ 255
  unfold Hp.rv
  repeat' split
  ·rw [e1]; exact peekI_row C.rw.v _
  ·rw [e2]; exact peekI_row C.rw.c _
  ·exact hx.2.2.1
  ·exact mixI_byte _ _ _
  ·exact mixI_byte _ _ _
  ·unfold Hp.ri
   repeat' split
   ·exact mixI_byte _ _ _
   ·exact mixI_byte _ _ _
   ·exact hx.2.2.1
  ·decide
 ·show 0 ≤ s.pk a ∧ s.pk a ≤ 255
  unfold Bs.pk
  repeat' split
  ·unfold readI
   split
   ·rename_i h1
    rw [hrv.1] at h1
    rw [hrv.2]
    obtain ⟨ad, _, _, _, hw⟩ := h.rom (a % 2097152).toNat (by omega)
    exact bounds_u8 hw
   ·decide
  ·exact hok.2.2.2.2 _ (by omega)
  ·decide
end
theorem ac_rom (d : Hd) (r : Nat → Int) (s : Bs) (p : Sp) : (acS d r s p).rn = s.rn ∧ (acS d r s p).rz = s.rz := by
 unfold acS
 split
 ·unfold Bs.wrS1
  split
  ·exact ⟨rfl, rfl⟩
  ·unfold Bs.wrS Bs.chS
   (repeat' split) <;> exact ⟨rfl, rfl⟩
 ·unfold Bs.rdS1
  split
  ·exact ⟨rfl, rfl⟩
  ·unfold Bs.rdS Bs.anS
   split <;> exact ⟨rfl, rfl⟩
theorem rn_rom (d : Hd) (r : Nat → Int) : ∀ (l : List Sp) (s : Bs), (rnS d r s l).rn = s.rn ∧ (rnS d r s l).rz = s.rz
 | [], s => ⟨rfl, rfl⟩
 | a :: l, s => by
  have h1 := rn_rom d r l (acS d r s a)
  have h2 := ac_rom d r s a
  exact ⟨h1.1.trans h2.1, h1.2.trans h2.2⟩
theorem entP_thr (k : Nat) (r : Nat → Int) (z : Int) : entP k (thr k r) z = entP k r z := by
 unfold entP thr
 by_cases h : k = 1
 ·subst h
  simp only [if_true]
  funext i
  by_cases h13 : i = 13
  ·subst h13; simp
  ·simp [h13]
 ·simp [h]
theorem own_drew3 {w : World} {base e size n : Nat} {v : Value} {xs : List Value} (h : w.ownsRow base e size v n xs) : w.drew.ownsRow base e size v n xs := h
/-- The word that was read by so many accesses. -/
def toW (va vb : Int) (j : Nat) : Int := if j ≤ 5 then 0 else if j = 6 then va else va + 256 * vb
theorem toW_same (va vb : Int) {j : Nat} (h5 : j ≠ 5) (h6 : j ≠ 6) : toW va vb (j + 1) = toW va vb j := by
 unfold toW
 by_cases h : j ≤ 4
 ·rw [if_pos (by omega), if_pos (by omega)]
 ·rw [if_neg (by omega), if_neg (by omega), if_neg (by omega), if_neg (by omega)]
theorem ePL_5 (k : Nat) (r : Nat → Int) : (ePL k r)[5]? = some ⟨7, goAt k, false, 0⟩ := rfl
theorem ePL_6 (k : Nat) (r : Nat → Int) : (ePL k r)[6]? = some ⟨7, goAt k + 1, false, 0⟩ := rfl
set_option maxHeartbeats 16000000 in
theorem rdo_one {W w : World} {g : Nat} {d : Hd} {Q : Rbp} {s : Bs} {nx : Bool} {K : Nat} {r : Nat → Int} (h : RBU W w g d Q s nx) (C : HC W d Q.Z) (hG : Good d.n d.es) (hoks : ∀ i, i ≤ 8 → OkS d (rnS d (thr 1 r) (s.ent 1) ((ePL 1 r).take i))) (hr : StOk r) (hf : s.fit K) (hK : K ≤ 90000) :
  Calls Tryz.prog 14 #[.pointer (some ⟨g, 0, none⟩), .agg (stA r), .int .u8 1] w fun e w' => ∃ nx', RbR (.agg (stA (entP 1 r (wordI (doA d 1 r s) (doB d 1 r s))))) W g d Q (doR d 1 r s).tn nx' w e w' := by
 have hk : 1 ≤ 1 ∧ 1 ≤ 5 := by decide
 have q4 : 0 ≤ r 4 ∧ r 4 ≤ 255 := hr 4 (by omega)
 have HQ4 := Lib.hid q4
 have h8 : ∀ r, (Tryz.prog.info? 32).map (·.size) = some (stA r).size := fun r => by rw [stA_size]; exact size_state
 have H8 := Lib.hid h8
 have HR := Lib.hid hr
 have HF := Lib.hid hf
 have HK := Lib.hid hk
 have HC := Lib.hid C
 have HGD := Lib.hid hG
 have HOKS := Lib.hid hoks
 have hlt := h.lt
 have hB0 : Below w.heap.size w ((w.alloc (.cells (stA r) 32)).alloc (.cells #[.int .u8 0, .int .u8 0, .int .u8 0, .int .u8 0, .int .u8 0, .int .u16 0, .int .u8 0, .int .u8 0, .int .u8 0, .int .u8 0, .int .u8 0, .int .u8 0, .int .u8 0, .int .u8 0, .int .u8 0, .bool false] 32)) := ((Below.refl _ w).alloc (Nat.le_refl _) _).alloc (by simp) _
 have k0 : Blk ((w.alloc (.cells (stA r) 32)).alloc (.cells #[.int .u8 0, .int .u8 0, .int .u8 0, .int .u8 0, .int .u8 0, .int .u16 0, .int .u8 0, .int .u8 0, .int .u8 0, .int .u8 0, .int .u8 0, .int .u8 0, .int .u8 0, .int .u8 0, .int .u8 0, .bool false] 32)) w.heap.size 32 (stA r) := (Blk.new w _ _).alloc _
 have k1 : Blk ((w.alloc (.cells (stA r) 32)).alloc (.cells #[.int .u8 0, .int .u8 0, .int .u8 0, .int .u8 0, .int .u8 0, .int .u16 0, .int .u8 0, .int .u8 0, .int .u8 0, .int .u8 0, .int .u8 0, .int .u8 0, .int .u8 0, .int .u8 0, .int .u8 0, .bool false] 32)) (w.heap.size + 1) 32 #[.int .u8 0, .int .u8 0, .int .u8 0, .int .u8 0, .int .u8 0, .int .u16 0, .int .u8 0, .int .u8 0, .int .u8 0, .int .u8 0, .int .u8 0, .int .u8 0, .int .u8 0, .int .u8 0, .int .u8 0, .bool false] := by
  have := Blk.new (w.alloc (.cells (stA r) 32)) 32 #[.int .u8 0, .int .u8 0, .int .u8 0, .int .u8 0, .int .u8 0, .int .u16 0, .int .u8 0, .int .u8 0, .int .u8 0, .int .u8 0, .int .u8 0, .int .u8 0, .int .u8 0, .int .u8 0, .int .u8 0, .bool false]
  simpa using this
 have HB0 := Lib.hid hB0
 have K0 := Lib.hid k0
 have K1 := Lib.hid k1
 have RB0 := Lib.hid (h.keep hB0)
 have HOLD := Lib.hid h.old.size
 have HLT := Lib.hid hlt
 clear h8 hr hf hk hB0 k0 k1 h C hG hoks q4 hlt
 go_enter Tryz.func14, Tryz.ntmps14
 go_upto_region 1 with fail
 generalize ((w.alloc (.cells (stA r) 32)).alloc (.cells #[.int .u8 0, .int .u8 0, .int .u8 0, .int .u8 0, .int .u8 0, .int .u16 0, .int .u8 0, .int .u8 0, .int .u8 0, .int .u8 0, .int .u8 0, .int .u8 0, .int .u8 0, .int .u8 0, .int .u8 0, .bool false] 32)) = w1 at *
 have kk0 := K0.out
 go_upto_region 2 with (first
  | (refine wpList_load_row rfl 32 (.tmp 4) rfl w.heap.size (by rfl) 32 (stA r) (0, 0) _ kk0 Tryz.underlying32 rfl (H8.out r) ?_)
  | (go_at_call 53; refine (rplan_yes 1 r HR.out HK.out _).mono ?_; rintro e w2 ⟨v1, rfl, own, hb⟩))
 rw [← pushed_eq (r 4) HQ4.out.1 HQ4.out.2] at own
 obtain ⟨b1, c1, rfl, z8, z9⟩ := own_form own (by omega)
 have O2 : Hid (w2.ownsRow w1.heap.size 147 4 (.slice (some ⟨b1, 0, none⟩) 8 c1) 8 (spL (ePL 1 r))) := Lib.hid own
 have K02 := Lib.hid (K0.out.below hb K0.out.lt)
 have K12 := Lib.hid (K1.out.below hb K1.out.lt)
 have RB2 := Lib.hid (RB0.out.keep hb)
 have HB2 := Lib.hid (HB0.out.trans (hb.mono HB0.out.size))
 have HB1 := Lib.hid (show w.heap.size ≤ b1 ∧ b1 < w2.heap.size from ⟨Nat.le_trans HB0.out.size z8, z9⟩)
 clear own hb kk0 z8 z9 K0 K1 RB0 HB0
 go_wp2_with fail
 refine (rbentered_any RB2.out 1 (by decide) (by decide)).mono ?_
 rintro e w3 ⟨nx3, t3, rfl, b3, kp3, fr3⟩
 obtain ⟨Q3, hQ3⟩ : ∃ Q3, ({ Q with tr := t3 } : Rbp) = Q3 := ⟨_, rfl⟩
 have HQE : Hid (∀ t, ({ Q3 with tr := t } : Rbp) = { Q with tr := t }) := Lib.hid (by rw [← hQ3]; intro t; rfl)
 have HC3 : Hid (Go.Proofs.YtndhkdcdhpfajaaGreat.HC W d Q3.Z) := Lib.hid (by rw [← hQ3]; exact HC.out)
 have hoff2 : ∀ y, w.heap.size ≤ y → y ∉ rbL g Q := fun y h0 hy => by have := HLT.out y hy; omega
 have hoff3 : ∀ y, w.heap.size ≤ y → y < w2.heap.size → y ∉ rbL g Q3 := fun y h0 h1 hy => by
  rw [← hQ3] at hy
  rcases fr3 y hy with e | e
  ·exact hoff2 y h0 e
  ·omega
 rw [hQ3] at b3 fr3
 have RB3 := Lib.hid b3
 have HOFF := Lib.hid hoff3
 have K03 := Lib.hid (K02.out.kp kp3 (hoff2 _ (Nat.le_refl _)))
 have K13 := Lib.hid (K12.out.kp kp3 (hoff2 _ (Nat.le_succ _)))
 have O3 := Lib.hid (own_kp O2.out kp3 (fun b hb => by have e : b1 = b := (by simpa [Value.ownBlock] using hb); rw [← e]; exact hoff2 _ HB1.out.1))
 have CK3 := Lib.hid ((Kp.of_below HB2.out (L := rbL g Q)).trans kp3 (fun x hx => .inl hx))
 have CF3 := Lib.hid (show ∀ y ∈ rbL g Q3, y ∈ rbL g Q ∨ w.heap.size ≤ y from fun y hy => (fr3 y hy).imp id (fun h => Nat.le_trans HB2.out.size h))
 have L02 := Lib.hid (show w.heap.size < w2.heap.size ∧ w.heap.size + 1 < w2.heap.size from ⟨K02.out.lt, K12.out.lt⟩)
 clear b3 kp3 fr3 hoff2 hoff3 hQ3 K02 K12 O2 RB2 HB2
 have x13 : w3.cell? ⟨w.heap.size, 13, none⟩ = some (.int .u8 (r 13)) := K03.out.cell 13
 have y13 : w3.frozen? ⟨w.heap.size, 13, none⟩ = false := K03.out.frozen 13
 go_upto_region 7 with fail
 have kx : Kp [w.heap.size] w3 (w3.setCell ⟨w.heap.size, 13, none⟩ (.int .u8 0)) := (Kp.refl _ _).setCell (.inl (by simp)) _
 have h8n : ∀ y ∈ rbL g Q3, y ∉ [w.heap.size] := fun y hy hy2 => by
  have e : y = w.heap.size := (by simpa using hy2)
  rw [e] at hy
  exact HOFF.out _ (Nat.le_refl _) L02.out.1 hy
 have RB5 := Lib.hid (RB3.out.kp kx h8n (fun y hy => by have e : y = w.heap.size := (by simpa using hy); rw [e]; exact HOLD.out))
 have K05x := Lib.hid (show Blk (w3.setCell ⟨w.heap.size, 13, none⟩ (.int .u8 0)) w.heap.size 32 (stA (thr 1 r)) from by rw [← thr_set]; exact K03.out.set_ 13 _)
 have K15 := Lib.hid (K13.out.kp kx (by simp))
 have O5 := Lib.hid (own_kp O3.out kx (fun b hb => by have e : b1 = b := (by simpa [Value.ownBlock] using hb); rw [← e]; obtain ⟨cs, hbb, _⟩ := own_blk O3.out b1 rfl; have h := hbb.ne_ K03.out (by decide); simpa using h))
 have CK5 := Lib.hid (CK3.out.trans kx (fun x hx => .inr (by have e : x = w.heap.size := (by simpa using hx); omega)))
 clear x13 y13 kx h8n RB3 K03 K13 O3 CK3
 generalize World.setCell w3 _ _ = w5 at *
 have K05 : Hid (Blk w5 w.heap.size 32 (stA (thr 1 r))) := K05x
 clear K05x
 obtain ⟨r', hr'⟩ : ∃ r', thr 1 r = r' := ⟨_, rfl⟩
 have HRp : Hid (StOk r') := Lib.hid (by rw [← hr']; exact thr_ok HR.out)
 have HRQ := Lib.hid hr'
 rw [hr'] at K05
 obtain ⟨L, hL⟩ : ∃ L, ePL 1 r = L := ⟨_, rfl⟩
 have HLL : Hid (L.length = 8) := Lib.hid (by rw [← hL]; rfl)
 have HLO : Hid (∀ p ∈ L, p.ok) := Lib.hid (by rw [← hL]; exact ePL_ok 1 r HR.out HK.out)
 have HLE := Lib.hid hL
 have H5 : Hid (L[5]? = some ⟨7, goAt 1, false, 0⟩) := Lib.hid (by rw [← hL]; exact ePL_5 1 r)
 have H6 : Hid (L[6]? = some ⟨7, goAt 1 + 1, false, 0⟩) := Lib.hid (by rw [← hL]; exact ePL_6 1 r)
 rw [hL] at O5
 obtain ⟨s1, hs1⟩ : ∃ s1, s.ent 1 = s1 := ⟨_, rfl⟩
 have HS1 := Lib.hid hs1
 have HF1 : Hid (s1.fit (K + 1)) := Lib.hid (by rw [← hs1]; exact fit_ent HF.out _)
 rw [hs1] at RB5
 have hoks := HOKS.out
 rw [hs1, hL, hr'] at hoks
 have HOK := Lib.hid hoks
 obtain ⟨va, hva⟩ : ∃ va, doA d 1 r s = va := ⟨_, rfl⟩
 obtain ⟨vb, hvb⟩ : ∃ vb, doB d 1 r s = vb := ⟨_, rfl⟩
 have HVA := Lib.hid hva
 have HVB := Lib.hid hvb
 have HA5 : Hid (acV d r' (rnS d r' s1 (L.take 5)) ⟨7, goAt 1, false, 0⟩ = va) := Lib.hid (by rw [← hva, ← hr', ← hs1, ← hL]; rfl)
 have HB6 : Hid (acV d r' (rnS d r' s1 (L.take 6)) ⟨7, goAt 1 + 1, false, 0⟩ = vb) := Lib.hid (by rw [← hvb, ← hr', ← hs1, ← hL]; rfl)
 have hss : doR d 1 r s = rnS d r' s1 L := by rw [← hr', ← hs1, ← hL]; rfl
 have HSS := Lib.hid hss
 have hva0 : 0 ≤ va ∧ va ≤ 255 := by
  rw [← HA5.out]
  unfold acV
  rw [if_neg (by simp)]
  exact rbV1_byte RB5.out (rn_rom _ _ _ _) HC3.out (HOK.out 5 (by omega)) _
 have hvb0 : 0 ≤ vb ∧ vb ≤ 255 := by
  rw [← HB6.out]
  unfold acV
  rw [if_neg (by simp)]
  exact rbV1_byte RB5.out (rn_rom _ _ _ _) HC3.out (HOK.out 6 (by omega)) _
 have HVAB := Lib.hid (And.intro hva0 hvb0)
 clear hr' hL hs1 hoks HOKS hva hvb hss hva0 hvb0
 go_upto_region 8 with fail
 go_wp2_with fail
 go_loopw [8, 9] (fun z i wr => ∃ j : Nat, j ≤ 8 ∧ i = .int .i64 j ∧ z = .int .u16 (toW va vb j) ∧ RbR (.tuple #[]) W g d Q3 (rnS d r' s1 (L.take j)) nx3 w5 (.returned (.tuple #[])) wr) (fun _ i _ => 8 - (intOf i).toNat)
 case atStart => exact ⟨0, by omega, rfl, rfl, RbR.mk0 RB5.out (Kp.refl _ _)⟩
 case round =>
  obtain ⟨j, hj, rfl, rfl, t6, _, hb6, k6, f6⟩ := hrel
  have hoff : ∀ y, w.heap.size ≤ y → y < w2.heap.size → y ∉ rbL g Q3 := HOFF.out
  have K06 := Lib.hid (K05.out.kp k6 (hoff _ (Nat.le_refl _) L02.out.1))
  have K16 := Lib.hid (K15.out.kp k6 (hoff _ (Nat.le_succ _) L02.out.2))
  have O6 := Lib.hid (own_kp O5.out k6 (fun b hb => by have e : b1 = b := (by simpa [Value.ownBlock] using hb); rw [← e]; exact hoff _ HB1.out.1 HB1.out.2))
  have RB6 := Lib.hid hb6
  have K6 := Lib.hid k6
  have F6 := Lib.hid f6
  clear hb6 k6 f6 hoff
  by_cases hlt : j < 8
  ·obtain ⟨p, hp⟩ : ∃ p, L[j]? = some p := ⟨L[j]'(by rw [HLL.out]; exact hlt), List.getElem?_eq_getElem _⟩
   have hq := own_at O6.out hp
   have HQQ := Lib.hid hq
   obtain ⟨q0, q1, q2, q3⟩ := hq
   have hpo : p.ok := HLO.out p (List.mem_of_getElem? hp)
   have HPO := Lib.hid hpo
   have HPP := Lib.hid hp
   have htk : L.take (j + 1) = L.take j ++ [p] := by rw [List.take_add_one, hp]; rfl
   have hS : rnS d r' s1 (L.take (j + 1)) = acS d r' (rnS d r' s1 (L.take j)) p := by rw [htk, rnS_snoc]
   have hft : (rnS d r' s1 (L.take j)).fit (K + 1 + (L.take j).length) := fit_rn _ HF1.out
   have hrm : K + 1 + (L.take j).length ≤ 100000 := by rw [List.length_take]; omega
   have HFT := Lib.hid (And.intro hft.1 hrm)
   have HOJ := Lib.hid (HOK.out j (by omega))
   have HPB := Lib.hid (phI_bd HRp.out p.ad hpo.a0 hpo.a1)
   obtain ⟨sn, hsn⟩ : ∃ sn, rnS d r' s1 (L.take (j + 1)) = sn := ⟨_, rfl⟩
   obtain ⟨sj, hsj⟩ : ∃ sj, rnS d r' s1 (L.take j) = sj := ⟨_, rfl⟩
   rw [hsn, hsj] at hS
   rw [hsj] at RB6 HFT HOJ
   have HS := Lib.hid hS
   have HSN := Lib.hid hsn
   have HSJ := Lib.hid hsj
   clear hp hpo htk hS hft hrm hsn hsj
   cases hpw : p.wr with
   | true =>
    rw [hpw] at q2
    have eS : sn = sj.wrS1 d (phI (pgF r') p.ad) p.dt p.kd := by rw [HS.out]; unfold acS; rw [if_pos hpw]
    have ES := Lib.hid eS
    have hj5 : j ≠ 5 := by
     rintro rfl
     have h := H5.out
     rw [HPP.out] at h
     injection h with h
     rw [h] at hpw
     cases hpw
    have hj6 : j ≠ 6 := by
     rintro rfl
     have h := H6.out
     rw [HPP.out] at h
     injection h with h
     rw [h] at hpw
     cases hpw
    have HTW := Lib.hid (toW_same va vb hj5 hj6)
    clear eS hpw hj5 hj6
    go_upto_region 12 with fail
    refine rg_begin (S := fun w' => Blk w' w.heap.size 32 (stA r') ∧ w'.cell? ⟨b1, j * 4, none⟩ = some (.int .u8 p.kd) ∧ w'.cell? ⟨b1, j * 4 + 1, none⟩ = some (.int .u16 p.ad) ∧ w'.cell? ⟨b1, j * 4 + 3, none⟩ = some (.int .u8 p.dt)) 19 #[false, false, false, false, false, false, false, false, false, false, false, false, false, false, false, false, false, false, false] (by kernel_rfl) (by kernel_rfl) (by kernel_rfl) ?_ (fun hHeld => ?_)
    ·exact ⟨K06.out.drew_, HQQ.out.1, HQQ.out.2.1, HQQ.out.2.2.2⟩
    refine rgu 0 (some 36) rfl ?_
    refine rgt 1 (some 37) (v := .agg (stA r')) rfl ?_ ?_
    ·(intro wS hSw; (try dsimp only at hSw); exact erow_load r' rfl rfl hSw.1)
    refine rgu 2 (some 38) rfl ?_
    refine rgu 3 (some 39) rfl ?_
    refine rgu 4 (some 40) rfl ?_
    refine rgu 5 (some 41) rfl ?_
    refine rgu 6 (some 42) rfl ?_
    refine rgu 8 (some 44) rfl ?_
    refine rgu 9 (some 45) rfl ?_
    refine rgu 10 (some 46) rfl ?_
    refine rgu 11 (some 47) rfl ?_
    refine rgu 12 (some 48) rfl ?_
    refine rgu 13 (some 49) rfl ?_
    refine rgu 14 (some 50) rfl ?_
    refine rgu 15 (some 51) rfl ?_
    refine rgu 16 (some 52) rfl ?_
    refine rgu 17 (some 53) rfl ?_
    try simp only [Act.put, List.setIfInBounds_toArray, List.set_cons_zero, List.set_cons_succ]
    refine rg_next (i := 7) (l := #[true, true, true, true, true, true, true, true, true, true, true, true, true, true, true, true, true, true, false]) (fuel := 1) (by kernel_rfl) rfl (by kernel_rfl) (by kernel_rfl) (fun K hK => ?_)
    go_simp
    go_at_call 28
    refine (rphys27_any r' HRp.out p.ad HPO.out.a0 HPO.out.a1 _).mono ?_
    rintro e w7 ⟨rfl, hb⟩
    have RB7 := Lib.hid (RBU.keep (RB6.out.kp0 (Kp.refl [] wr).drew) hb)
    have O7 := Lib.hid (own_belowG (own_drew3 O6.out) hb)
    have K07 := Lib.hid (Blk.below (w := wr.drew) K06.out hb (Blk.lt (w := wr) K06.out))
    have HB7 := Lib.hid hb
    have HQ7 := Lib.hid (own_at O7.out HPP.out)
    clear hb
    first | (refine hK.out _ _ ?_ (fun hHeld => ?_)) | (go_wp2_with fail; refine hK.out _ _ ?_ (fun hHeld => ?_))
    ·(try dsimp only); exact ⟨K07.out, HQ7.out.1, HQ7.out.2.1, HQ7.out.2.2.2⟩
    clear hK K
    try simp only [Act.put, List.setIfInBounds_toArray, List.set_cons_zero, List.set_cons_succ]
    refine rg_next (i := 18) (l := #[true, true, true, true, true, true, true, true, true, true, true, true, true, true, true, true, true, true, true]) (fuel := 0) (by kernel_rfl) rfl (by kernel_rfl) (by kernel_rfl) (fun K hK => ?_)
    go_simp
    go_at_call 27
    refine (rbwrite1 HOJ.out.1 HOJ.out.2 HGD.out RB7.out HC3.out HFT.out.1 HFT.out.2 (phI (pgF r') p.ad) p.dt p.kd HPB.out.1 HPB.out.2 HPO.out.d0 HPO.out.d1).mono ?_
    rintro e w8 ⟨t8, rfl, b8, k8, f8⟩
    have K7 := Lib.hid ((K6.out.drew).trans (Kp.of_below HB7.out) (fun x hx => .inl hx))
    have K8 := Lib.hid (K7.out.trans k8 (fun x hx => F6.out x hx))
    have F8 := Lib.hid (show ∀ y ∈ rbL g { Q3 with tr := t8 }, y ∈ rbL g Q3 ∨ w5.heap.size ≤ y from fun y hy => (f8 y hy).elim (fun h => F6.out y h) (fun h => .inr (Nat.le_trans K7.out.size h)))
    have K08 := Lib.hid (K05.out.kp K8.out (HOFF.out _ (Nat.le_refl _) L02.out.1))
    have O8 := Lib.hid (own_kp O5.out K8.out (fun b hb => by have e : b1 = b := (by simpa [Value.ownBlock] using hb); rw [← e]; exact HOFF.out _ HB1.out.1 HB1.out.2))
    have HQ8 := Lib.hid (own_at O8.out HPP.out)
    rw [← ES.out] at b8
    have RB8 := Lib.hid b8
    clear b8 k8 f8
    first | (refine hK.out _ _ ?_ (fun hHeld => ?_)) | (go_wp2_with fail; refine hK.out _ _ ?_ (fun hHeld => ?_))
    ·(try dsimp only); exact ⟨K08.out, HQ8.out.1, HQ8.out.2.1, HQ8.out.2.2.2⟩
    clear hK K
    try simp only [Act.put, List.setIfInBounds_toArray, List.set_cons_zero, List.set_cons_succ]
    refine wpAnyH_done (by kernel_rfl) ?_ _
    clear RB6 K06 K16 O6 q0 q1 q2 q3 HQQ RB7 O7 K07 HQ7
    go_wp2_with fail
    go_roundw
    case rel => exact ⟨j + 1, by omega, by go_num, by rw [HTW.out], t8, rfl, by rw [HSN.out]; exact RB8.out, K8.out, F8.out⟩
    case measure => simp [intOf]; omega
   | false =>
    rw [hpw] at q2
    have hpb := Lib.hid hpw
    have eS : sn = sj.rdS1 d (phI (pgF r') p.ad) p.kd := by rw [HS.out]; unfold acS; rw [if_neg (by simp [hpw])]
    have eV : acV d r' sj p = sj.rdV1 d (phI (pgF r') p.ad) := by unfold acV; rw [if_neg (by simp [hpw])]
    have ES := Lib.hid eS
    have EV := Lib.hid eV
    have hvb := rbV1_byte RB6.out ⟨rfl, rfl⟩ HC3.out HOJ.out (phI (pgF r') p.ad)
    obtain ⟨x, hx⟩ : ∃ x, sj.rdV1 d (phI (pgF r') p.ad) = x := ⟨_, rfl⟩
    rw [hx] at hvb
    have HX := Lib.hid hx
    obtain ⟨x0, x1⟩ := hvb
    clear eS eV hpw hx
    go_upto_region 13 with fail
    refine rg_begin (S := fun w' => Blk w' w.heap.size 32 (stA r') ∧ w'.cell? ⟨b1, j * 4, none⟩ = some (.int .u8 p.kd) ∧ w'.cell? ⟨b1, j * 4 + 1, none⟩ = some (.int .u16 p.ad)) 15 #[false, false, false, false, false, false, false, false, false, false, false, false, false, false, false] (by kernel_rfl) (by kernel_rfl) (by kernel_rfl) ?_ (fun hHeld => ?_)
    ·exact ⟨K06.out.drew_, HQQ.out.1, HQQ.out.2.1⟩
    refine rgu 0 (some 55) rfl ?_
    refine rgt 1 (some 56) (v := .agg (stA r')) rfl ?_ ?_
    ·(intro wS hSw; (try dsimp only at hSw); exact erow_load r' rfl rfl hSw.1)
    refine rgu 2 (some 57) rfl ?_
    refine rgu 3 (some 58) rfl ?_
    refine rgu 4 (some 59) rfl ?_
    refine rgu 5 (some 60) rfl ?_
    refine rgu 6 (some 61) rfl ?_
    refine rgu 8 (some 63) rfl ?_
    refine rgu 9 (some 64) rfl ?_
    refine rgu 10 (some 65) rfl ?_
    refine rgu 11 (some 66) rfl ?_
    refine rgu 12 (some 67) rfl ?_
    try simp only [Act.put, List.setIfInBounds_toArray, List.set_cons_zero, List.set_cons_succ]
    refine rg_next (i := 7) (l := #[true, true, true, true, true, true, true, true, true, true, true, true, true, false, false]) (fuel := 2) (by kernel_rfl) rfl (by kernel_rfl) (by kernel_rfl) (fun K hK => ?_)
    go_simp
    go_at_call 28
    refine (rphys27_any r' HRp.out p.ad HPO.out.a0 HPO.out.a1 _).mono ?_
    rintro e w7 ⟨rfl, hb⟩
    have RB7 := Lib.hid (RBU.keep (RB6.out.kp0 (Kp.refl [] wr).drew) hb)
    have O7 := Lib.hid (own_belowG (own_drew3 O6.out) hb)
    have K07 := Lib.hid (Blk.below (w := wr.drew) K06.out hb (Blk.lt (w := wr) K06.out))
    have HB7 := Lib.hid hb
    have HQ7 := Lib.hid (own_at O7.out HPP.out)
    clear hb
    first | (refine hK.out _ _ ?_ (fun hHeld => ?_)) | (go_wp2_with fail; refine hK.out _ _ ?_ (fun hHeld => ?_))
    ·(try dsimp only); exact ⟨K07.out, HQ7.out.1, HQ7.out.2.1⟩
    clear hK K
    try simp only [Act.put, List.setIfInBounds_toArray, List.set_cons_zero, List.set_cons_succ]
    refine rg_next (i := 13) (l := #[true, true, true, true, true, true, true, true, true, true, true, true, true, true, false]) (fuel := 1) (by kernel_rfl) rfl (by kernel_rfl) (by kernel_rfl) (fun K hK => ?_)
    go_simp
    go_at_call 29
    refine (rbread1 HOJ.out.1 HOJ.out.2 HGD.out RB7.out HC3.out HFT.out.1 HFT.out.2 (phI (pgF r') p.ad) p.kd HPB.out.1 HPB.out.2).mono ?_
    rw [HX.out]
    rintro e w8 ⟨t8, rfl, b8, k8, f8⟩
    have K7 := Lib.hid ((K6.out.drew).trans (Kp.of_below HB7.out) (fun x hx => .inl hx))
    have K8 := Lib.hid (K7.out.trans k8 (fun x hx => F6.out x hx))
    have F8 := Lib.hid (show ∀ y ∈ rbL g { Q3 with tr := t8 }, y ∈ rbL g Q3 ∨ w5.heap.size ≤ y from fun y hy => (f8 y hy).elim (fun h => F6.out y h) (fun h => .inr (Nat.le_trans K7.out.size h)))
    have K08 := Lib.hid (K05.out.kp K8.out (HOFF.out _ (Nat.le_refl _) L02.out.1))
    have O8 := Lib.hid (own_kp O5.out K8.out (fun b hb => by have e : b1 = b := (by simpa [Value.ownBlock] using hb); rw [← e]; exact HOFF.out _ HB1.out.1 HB1.out.2))
    have HQ8 := Lib.hid (own_at O8.out HPP.out)
    rw [← ES.out] at b8
    have RB8 := Lib.hid b8
    clear b8 k8 f8
    first | (refine hK.out _ _ ?_ (fun hHeld => ?_)) | (go_wp2_with fail; refine hK.out _ _ ?_ (fun hHeld => ?_))
    ·(try dsimp only); exact ⟨K08.out, HQ8.out.1, HQ8.out.2.1⟩
    clear hK K
    refine rgu 14 (some 10) rfl ?_
    try simp only [Act.put, List.setIfInBounds_toArray, List.set_cons_zero, List.set_cons_succ]
    refine wpAnyH_done (by kernel_rfl) ?_ _
    clear RB6 K06 K16 O6 q0 q1 q2 q3 HQQ RB7 O7 K07 HQ7
    have u0 : IntKind.u16.wrap x = x := IntWalk.u16_in _ (by omega)
    by_cases hj5 : j = 5
    ·subst hj5
     have e : x = va := by
      have h := H5.out
      rw [HPP.out] at h
      injection h with h
      rw [← HX.out, ← EV.out, ← HSJ.out, h]
      exact HA5.out
     have HE := Lib.hid e
     have f1 : (((5 : Nat) : Int) == 5) = true := rfl
     have f2 : (((5 : Nat) : Int) == 6) = false := rfl
     clear e
     go_wp2_with fail
     go_roundw
     case rel => exact ⟨6, by omega, by go_num, by rw [HE.out]; rfl, t8, rfl, by rw [HSN.out]; exact RB8.out, K8.out, F8.out⟩
     case measure => simp [intOf]
    by_cases hj6 : j = 6
    ·subst hj6
     have e : x = vb := by
      have h := H6.out
      rw [HPP.out] at h
      injection h with h
      rw [← HX.out, ← EV.out, ← HSJ.out, h]
      exact HB6.out
     have HE := Lib.hid e
     have hvA := HVAB.out
     have f1 : (((6 : Nat) : Int) == 5) = false := rfl
     have f2 : (((6 : Nat) : Int) == 6) = true := rfl
     have u1 : IntKind.u16.wrap (256 * x) = 256 * x := IntWalk.u16_in _ (by omega)
     have ez : toW va vb 6 = va := rfl
     have u2 : IntKind.u16.wrap (va + 256 * x) = va + 256 * x := IntWalk.u16_in _ (by omega)
     rw [ez]
     clear e ez
     go_wp2_with fail
     go_roundw
     case rel => exact ⟨7, by omega, by go_num, by rw [HE.out]; rfl, t8, rfl, by rw [HSN.out]; exact RB8.out, K8.out, F8.out⟩
     case measure => simp [intOf]
    ·have f1 : ((j : Int) == 5) = false := by simp; omega
     have f2 : ((j : Int) == 6) = false := by simp; omega
     have HTW := Lib.hid (toW_same va vb hj5 hj6)
     clear hj5 hj6
     go_wp2_with fail
     go_roundw
     case rel => exact ⟨j + 1, by omega, by go_num, by rw [HTW.out], t8, rfl, by rw [HSN.out]; exact RB8.out, K8.out, F8.out⟩
     case measure => simp [intOf]; omega
  ·obtain rfl : j = 8 := by omega
   have ht8 : L.take 8 = L := List.take_of_length_le (by rw [HLL.out]; exact Nat.le_refl _)
   have hft : (rnS d r' s1 L).fit (K + 1 + L.length) := fit_rn _ HF1.out
   have rb6 := RB6.out
   rw [ht8] at rb6
   rw [← HSS.out] at rb6 hft
   have RB7 := Lib.hid rb6
   have HFT := Lib.hid hft
   have hz : toW va vb 8 = wordI va vb := by
    obtain ⟨⟨a0, a1⟩, b0, b1⟩ := HVAB.out
    rw [wordI_eq va vb a0 a1 b0 b1]
    rfl
   rw [hz]
   have hcl := rb6.cells.2.2.2.1
   clear ht8 hft rb6 hz hlt hj RB6
   go_wp2_with fail
   refine (rbturn_any RB7.out HFT.out.2).mono ?_
   rintro e w8 ⟨t8, rfl, b8, k8, f8⟩
   have K8 := Lib.hid (K6.out.trans k8 (fun x hx => F6.out x hx))
   have F8 := Lib.hid (show ∀ y ∈ rbL g { Q3 with tr := t8 }, y ∈ rbL g Q3 ∨ w5.heap.size ≤ y from fun y hy => (f8 y hy).elim (fun h => F6.out y h) (fun h => .inr (Nat.le_trans K6.out.size h)))
   have K08 := Lib.hid (K05.out.kp K8.out (HOFF.out _ (Nat.le_refl _) L02.out.1))
   have K18 := Lib.hid (K15.out.kp K8.out (HOFF.out _ (Nat.le_succ _) L02.out.2))
   have RB8 := Lib.hid b8
   clear b8 k8 f8 RB7 K6 F6 K06 K16 O6 hcl
   have kk8 := K08.out
   go_wp2_with (first
    | (refine wpList_load_row rfl 32 (.tmp 4) rfl w.heap.size (by rfl) 32 (stA r') (0, 0) _ kk8 Tryz.underlying32 rfl (H8.out r') ?_)
    | (go_at_call 56; refine (rafter_any 1 r' (wordI va vb) _ (HRp.out 4 (by omega)).1 (HRp.out 4 (by omega)).2).mono ?_; rintro e w9 ⟨rfl, hb⟩; have K19 := Lib.hid (K18.out.below hb K18.out.lt); have HB9 := Lib.hid hb; have hst := K19.out.run_store (P := Tryz.prog) (stA (entP 1 r' (wordI va vb))) rfl (stA_one _); have hsE := stA_size (entP 1 r' (wordI va vb)); clear hb))
   have kz : Kp [w.heap.size + 1] w9 (w9.setRow (w.heap.size + 1) (stA (entP 1 r' (wordI va vb)))) := (Kp.refl _ _).setRow (.inl (by simp)) _
   have RB9 := RB8.out.keep HB9.out
   have RB10 := RB9.kp kz (fun y hy hy2 => by
    have e : y = w.heap.size + 1 := (by simpa using hy2)
    rw [e] at hy
    rcases F8.out _ hy with h | h
    ·exact HOFF.out _ (Nat.le_succ _) L02.out.2 h
    ·have := K15.out.lt; omega) (fun y hy => by have e : y = w.heap.size + 1 := (by simpa using hy); have := HOLD.out; omega)
   have k8w : Kp (rbL g Q) w w8 := CK5.out.trans K8.out (fun x hx => CF3.out x hx)
   have K10 := (k8w.trans (Kp.of_below HB9.out) (fun x hx => .inl hx)).trans kz (fun x hx => .inr (by have e : x = w.heap.size + 1 := (by simpa using hx); omega))
   have HD := (K19.out.row (stA (entP 1 r' (wordI va vb)))).run_load (P := Tryz.prog) Tryz.underlying32 rfl size_state
   (try simp only [Exit.inBlock, Exit.then])
   refine bodyPost_ret (results_cell (a := ⟨w.heap.size + 1, 0, none⟩) Tryz.results14 (by rfl) HD) rfl ?_
   rw [HQE.out] at RB10
   refine ⟨nx3, t8, ?_, RB10, K10, fun y hy => ?_⟩
   ·rw [HVA.out, HVB.out, ← HRQ.out]; first | rw [entP_thr] | (have e := entP_thr 1 r (wordI va vb); exact congrArg (fun z => Ending.returned (Value.agg (stA z))) e)
   ·rw [← HQE.out] at hy
    exact (F8.out y hy).elim (fun h => CF3.out y h) (fun h => .inr (Nat.le_trans CK5.out.size h))
set_option maxHeartbeats 16000000 in
theorem rdo_more {W w : World} {g : Nat} {d : Hd} {Q : Rbp} {s : Bs} {nx : Bool} {K : Nat} {r : Nat → Int} (k : Nat) (hk2 : 2 ≤ k ∧ k ≤ 5) (h : RBU W w g d Q s nx) (C : HC W d Q.Z) (hG : Good d.n d.es) (hoks : ∀ i, i ≤ 8 → OkS d (rnS d (thr k r) (s.ent k) ((ePL k r).take i))) (hr : StOk r) (hf : s.fit K) (hK : K ≤ 90000) :
  Calls Tryz.prog 14 #[.pointer (some ⟨g, 0, none⟩), .agg (stA r), .int .u8 (k : Int)] w fun e w' => ∃ nx', RbR (.agg (stA (entP k r (wordI (doA d k r s) (doB d k r s))))) W g d Q (doR d k r s).tn nx' w e w' := by
 have hk : 1 ≤ k ∧ k ≤ 5 := by omega
 have k1e : ((k : Int) == 1) = false := by simp; omega
 have kb : (0 : Int) ≤ k ∧ (k : Int) ≤ 255 := by omega
 have q4 : 0 ≤ r 4 ∧ r 4 ≤ 255 := hr 4 (by omega)
 have HQ4 := Lib.hid q4
 have h8 : ∀ r, (Tryz.prog.info? 32).map (·.size) = some (stA r).size := fun r => by rw [stA_size]; exact size_state
 have H8 := Lib.hid h8
 have HR := Lib.hid hr
 have HF := Lib.hid hf
 have HK := Lib.hid hk
 have HC := Lib.hid C
 have HGD := Lib.hid hG
 have HOKS := Lib.hid hoks
 have hlt := h.lt
 have hB0 : Below w.heap.size w ((w.alloc (.cells (stA r) 32)).alloc (.cells #[.int .u8 0, .int .u8 0, .int .u8 0, .int .u8 0, .int .u8 0, .int .u16 0, .int .u8 0, .int .u8 0, .int .u8 0, .int .u8 0, .int .u8 0, .int .u8 0, .int .u8 0, .int .u8 0, .int .u8 0, .bool false] 32)) := ((Below.refl _ w).alloc (Nat.le_refl _) _).alloc (by simp) _
 have k0 : Blk ((w.alloc (.cells (stA r) 32)).alloc (.cells #[.int .u8 0, .int .u8 0, .int .u8 0, .int .u8 0, .int .u8 0, .int .u16 0, .int .u8 0, .int .u8 0, .int .u8 0, .int .u8 0, .int .u8 0, .int .u8 0, .int .u8 0, .int .u8 0, .int .u8 0, .bool false] 32)) w.heap.size 32 (stA r) := (Blk.new w _ _).alloc _
 have k1 : Blk ((w.alloc (.cells (stA r) 32)).alloc (.cells #[.int .u8 0, .int .u8 0, .int .u8 0, .int .u8 0, .int .u8 0, .int .u16 0, .int .u8 0, .int .u8 0, .int .u8 0, .int .u8 0, .int .u8 0, .int .u8 0, .int .u8 0, .int .u8 0, .int .u8 0, .bool false] 32)) (w.heap.size + 1) 32 #[.int .u8 0, .int .u8 0, .int .u8 0, .int .u8 0, .int .u8 0, .int .u16 0, .int .u8 0, .int .u8 0, .int .u8 0, .int .u8 0, .int .u8 0, .int .u8 0, .int .u8 0, .int .u8 0, .int .u8 0, .bool false] := by
  have := Blk.new (w.alloc (.cells (stA r) 32)) 32 #[.int .u8 0, .int .u8 0, .int .u8 0, .int .u8 0, .int .u8 0, .int .u16 0, .int .u8 0, .int .u8 0, .int .u8 0, .int .u8 0, .int .u8 0, .int .u8 0, .int .u8 0, .int .u8 0, .int .u8 0, .bool false]
  simpa using this
 have HB0 := Lib.hid hB0
 have K0 := Lib.hid k0
 have K1 := Lib.hid k1
 have RB0 := Lib.hid (h.keep hB0)
 have HOLD := Lib.hid h.old.size
 have HLT := Lib.hid hlt
 clear h8 hr hf hk hB0 k0 k1 h C hG hoks q4 hlt
 go_enter Tryz.func14, Tryz.ntmps14
 go_upto_region 1 with fail
 generalize ((w.alloc (.cells (stA r) 32)).alloc (.cells #[.int .u8 0, .int .u8 0, .int .u8 0, .int .u8 0, .int .u8 0, .int .u16 0, .int .u8 0, .int .u8 0, .int .u8 0, .int .u8 0, .int .u8 0, .int .u8 0, .int .u8 0, .int .u8 0, .int .u8 0, .bool false] 32)) = w1 at *
 have kk0 := K0.out
 go_upto_region 2 with (first
  | (refine wpList_load_row rfl 32 (.tmp 4) rfl w.heap.size (by rfl) 32 (stA r) (0, 0) _ kk0 Tryz.underlying32 rfl (H8.out r) ?_)
  | (go_at_call 53; refine (rplan_yes k r HR.out HK.out _).mono ?_; rintro e w2 ⟨v1, rfl, own, hb⟩))
 rw [← pushed_eq (r 4) HQ4.out.1 HQ4.out.2] at own
 obtain ⟨b1, c1, rfl, z8, z9⟩ := own_form own (by omega)
 have O2 : Hid (w2.ownsRow w1.heap.size 147 4 (.slice (some ⟨b1, 0, none⟩) 8 c1) 8 (spL (ePL k r))) := Lib.hid own
 have K02 := Lib.hid (K0.out.below hb K0.out.lt)
 have K12 := Lib.hid (K1.out.below hb K1.out.lt)
 have RB2 := Lib.hid (RB0.out.keep hb)
 have HB2 := Lib.hid (HB0.out.trans (hb.mono HB0.out.size))
 have HB1 := Lib.hid (show w.heap.size ≤ b1 ∧ b1 < w2.heap.size from ⟨Nat.le_trans HB0.out.size z8, z9⟩)
 clear own hb kk0 z8 z9 K0 K1 RB0 HB0
 go_wp2_with fail
 refine (rbentered_any RB2.out (k : Int) kb.1 kb.2).mono ?_
 rintro e w3 ⟨nx3, t3, rfl, b3, kp3, fr3⟩
 obtain ⟨Q3, hQ3⟩ : ∃ Q3, ({ Q with tr := t3 } : Rbp) = Q3 := ⟨_, rfl⟩
 have HQE : Hid (∀ t, ({ Q3 with tr := t } : Rbp) = { Q with tr := t }) := Lib.hid (by rw [← hQ3]; intro t; rfl)
 have HC3 : Hid (Go.Proofs.YtndhkdcdhpfajaaGreat.HC W d Q3.Z) := Lib.hid (by rw [← hQ3]; exact HC.out)
 have hoff2 : ∀ y, w.heap.size ≤ y → y ∉ rbL g Q := fun y h0 hy => by have := HLT.out y hy; omega
 have hoff3 : ∀ y, w.heap.size ≤ y → y < w2.heap.size → y ∉ rbL g Q3 := fun y h0 h1 hy => by
  rw [← hQ3] at hy
  rcases fr3 y hy with e | e
  ·exact hoff2 y h0 e
  ·omega
 rw [hQ3] at b3 fr3
 have RB3 := Lib.hid b3
 have HOFF := Lib.hid hoff3
 have K03 := Lib.hid (K02.out.kp kp3 (hoff2 _ (Nat.le_refl _)))
 have K13 := Lib.hid (K12.out.kp kp3 (hoff2 _ (Nat.le_succ _)))
 have O3 := Lib.hid (own_kp O2.out kp3 (fun b hb => by have e : b1 = b := (by simpa [Value.ownBlock] using hb); rw [← e]; exact hoff2 _ HB1.out.1))
 have CK3 := Lib.hid ((Kp.of_below HB2.out (L := rbL g Q)).trans kp3 (fun x hx => .inl hx))
 have CF3 := Lib.hid (show ∀ y ∈ rbL g Q3, y ∈ rbL g Q ∨ w.heap.size ≤ y from fun y hy => (fr3 y hy).imp id (fun h => Nat.le_trans HB2.out.size h))
 have L02 := Lib.hid (show w.heap.size < w2.heap.size ∧ w.heap.size + 1 < w2.heap.size from ⟨K02.out.lt, K12.out.lt⟩)
 clear b3 kp3 fr3 hoff2 hoff3 hQ3 K02 K12 O2 RB2 HB2
 have RB5 := RB3
 have K05x : Hid (Blk w3 w.heap.size 32 (stA (thr k r))) := Lib.hid (by rw [show thr k r = r from if_neg (by omega)]; exact K03.out)
 have K15 := K13
 have O5 := O3
 have CK5 := CK3
 clear RB3 K03 K13 O3 CK3
 generalize w3 = w5 at *
 have K05 : Hid (Blk w5 w.heap.size 32 (stA (thr k r))) := K05x
 clear K05x
 obtain ⟨r', hr'⟩ : ∃ r', thr k r = r' := ⟨_, rfl⟩
 have HRp : Hid (StOk r') := Lib.hid (by rw [← hr']; exact thr_ok HR.out)
 have HRQ := Lib.hid hr'
 rw [hr'] at K05
 obtain ⟨L, hL⟩ : ∃ L, ePL k r = L := ⟨_, rfl⟩
 have HLL : Hid (L.length = 8) := Lib.hid (by rw [← hL]; rfl)
 have HLO : Hid (∀ p ∈ L, p.ok) := Lib.hid (by rw [← hL]; exact ePL_ok k r HR.out HK.out)
 have HLE := Lib.hid hL
 have H5 : Hid (L[5]? = some ⟨7, goAt k, false, 0⟩) := Lib.hid (by rw [← hL]; exact ePL_5 k r)
 have H6 : Hid (L[6]? = some ⟨7, goAt k + 1, false, 0⟩) := Lib.hid (by rw [← hL]; exact ePL_6 k r)
 rw [hL] at O5
 obtain ⟨s1, hs1⟩ : ∃ s1, s.ent k = s1 := ⟨_, rfl⟩
 have HS1 := Lib.hid hs1
 have HF1 : Hid (s1.fit (K + 1)) := Lib.hid (by rw [← hs1]; exact fit_ent HF.out _)
 rw [hs1] at RB5
 have hoks := HOKS.out
 rw [hs1, hL, hr'] at hoks
 have HOK := Lib.hid hoks
 obtain ⟨va, hva⟩ : ∃ va, doA d k r s = va := ⟨_, rfl⟩
 obtain ⟨vb, hvb⟩ : ∃ vb, doB d k r s = vb := ⟨_, rfl⟩
 have HVA := Lib.hid hva
 have HVB := Lib.hid hvb
 have HA5 : Hid (acV d r' (rnS d r' s1 (L.take 5)) ⟨7, goAt k, false, 0⟩ = va) := Lib.hid (by rw [← hva, ← hr', ← hs1, ← hL]; rfl)
 have HB6 : Hid (acV d r' (rnS d r' s1 (L.take 6)) ⟨7, goAt k + 1, false, 0⟩ = vb) := Lib.hid (by rw [← hvb, ← hr', ← hs1, ← hL]; rfl)
 have hss : doR d k r s = rnS d r' s1 L := by rw [← hr', ← hs1, ← hL]; rfl
 have HSS := Lib.hid hss
 have hva0 : 0 ≤ va ∧ va ≤ 255 := by
  rw [← HA5.out]
  unfold acV
  rw [if_neg (by simp)]
  exact rbV1_byte RB5.out (rn_rom _ _ _ _) HC3.out (HOK.out 5 (by omega)) _
 have hvb0 : 0 ≤ vb ∧ vb ≤ 255 := by
  rw [← HB6.out]
  unfold acV
  rw [if_neg (by simp)]
  exact rbV1_byte RB5.out (rn_rom _ _ _ _) HC3.out (HOK.out 6 (by omega)) _
 have HVAB := Lib.hid (And.intro hva0 hvb0)
 clear hr' hL hs1 hoks HOKS hva hvb hss hva0 hvb0
 go_upto_region 8 with fail
 go_wp2_with fail
 go_loopw [8, 9] (fun z i wr => ∃ j : Nat, j ≤ 8 ∧ i = .int .i64 j ∧ z = .int .u16 (toW va vb j) ∧ RbR (.tuple #[]) W g d Q3 (rnS d r' s1 (L.take j)) nx3 w5 (.returned (.tuple #[])) wr) (fun _ i _ => 8 - (intOf i).toNat)
 case atStart => exact ⟨0, by omega, rfl, rfl, RbR.mk0 RB5.out (Kp.refl _ _)⟩
 case round =>
  obtain ⟨j, hj, rfl, rfl, t6, _, hb6, k6, f6⟩ := hrel
  have hoff : ∀ y, w.heap.size ≤ y → y < w2.heap.size → y ∉ rbL g Q3 := HOFF.out
  have K06 := Lib.hid (K05.out.kp k6 (hoff _ (Nat.le_refl _) L02.out.1))
  have K16 := Lib.hid (K15.out.kp k6 (hoff _ (Nat.le_succ _) L02.out.2))
  have O6 := Lib.hid (own_kp O5.out k6 (fun b hb => by have e : b1 = b := (by simpa [Value.ownBlock] using hb); rw [← e]; exact hoff _ HB1.out.1 HB1.out.2))
  have RB6 := Lib.hid hb6
  have K6 := Lib.hid k6
  have F6 := Lib.hid f6
  clear hb6 k6 f6 hoff
  by_cases hlt : j < 8
  ·obtain ⟨p, hp⟩ : ∃ p, L[j]? = some p := ⟨L[j]'(by rw [HLL.out]; exact hlt), List.getElem?_eq_getElem _⟩
   have hq := own_at O6.out hp
   have HQQ := Lib.hid hq
   obtain ⟨q0, q1, q2, q3⟩ := hq
   have hpo : p.ok := HLO.out p (List.mem_of_getElem? hp)
   have HPO := Lib.hid hpo
   have HPP := Lib.hid hp
   have htk : L.take (j + 1) = L.take j ++ [p] := by rw [List.take_add_one, hp]; rfl
   have hS : rnS d r' s1 (L.take (j + 1)) = acS d r' (rnS d r' s1 (L.take j)) p := by rw [htk, rnS_snoc]
   have hft : (rnS d r' s1 (L.take j)).fit (K + 1 + (L.take j).length) := fit_rn _ HF1.out
   have hrm : K + 1 + (L.take j).length ≤ 100000 := by rw [List.length_take]; omega
   have HFT := Lib.hid (And.intro hft.1 hrm)
   have HOJ := Lib.hid (HOK.out j (by omega))
   have HPB := Lib.hid (phI_bd HRp.out p.ad hpo.a0 hpo.a1)
   obtain ⟨sn, hsn⟩ : ∃ sn, rnS d r' s1 (L.take (j + 1)) = sn := ⟨_, rfl⟩
   obtain ⟨sj, hsj⟩ : ∃ sj, rnS d r' s1 (L.take j) = sj := ⟨_, rfl⟩
   rw [hsn, hsj] at hS
   rw [hsj] at RB6 HFT HOJ
   have HS := Lib.hid hS
   have HSN := Lib.hid hsn
   have HSJ := Lib.hid hsj
   clear hp hpo htk hS hft hrm hsn hsj
   cases hpw : p.wr with
   | true =>
    rw [hpw] at q2
    have eS : sn = sj.wrS1 d (phI (pgF r') p.ad) p.dt p.kd := by rw [HS.out]; unfold acS; rw [if_pos hpw]
    have ES := Lib.hid eS
    have hj5 : j ≠ 5 := by
     rintro rfl
     have h := H5.out
     rw [HPP.out] at h
     injection h with h
     rw [h] at hpw
     cases hpw
    have hj6 : j ≠ 6 := by
     rintro rfl
     have h := H6.out
     rw [HPP.out] at h
     injection h with h
     rw [h] at hpw
     cases hpw
    have HTW := Lib.hid (toW_same va vb hj5 hj6)
    clear eS hpw hj5 hj6
    go_upto_region 12 with fail
    refine rg_begin (S := fun w' => Blk w' w.heap.size 32 (stA r') ∧ w'.cell? ⟨b1, j * 4, none⟩ = some (.int .u8 p.kd) ∧ w'.cell? ⟨b1, j * 4 + 1, none⟩ = some (.int .u16 p.ad) ∧ w'.cell? ⟨b1, j * 4 + 3, none⟩ = some (.int .u8 p.dt)) 19 #[false, false, false, false, false, false, false, false, false, false, false, false, false, false, false, false, false, false, false] (by kernel_rfl) (by kernel_rfl) (by kernel_rfl) ?_ (fun hHeld => ?_)
    ·exact ⟨K06.out.drew_, HQQ.out.1, HQQ.out.2.1, HQQ.out.2.2.2⟩
    refine rgu 0 (some 36) rfl ?_
    refine rgt 1 (some 37) (v := .agg (stA r')) rfl ?_ ?_
    ·(intro wS hSw; (try dsimp only at hSw); exact erow_load r' rfl rfl hSw.1)
    refine rgu 2 (some 38) rfl ?_
    refine rgu 3 (some 39) rfl ?_
    refine rgu 4 (some 40) rfl ?_
    refine rgu 5 (some 41) rfl ?_
    refine rgu 6 (some 42) rfl ?_
    refine rgu 8 (some 44) rfl ?_
    refine rgu 9 (some 45) rfl ?_
    refine rgu 10 (some 46) rfl ?_
    refine rgu 11 (some 47) rfl ?_
    refine rgu 12 (some 48) rfl ?_
    refine rgu 13 (some 49) rfl ?_
    refine rgu 14 (some 50) rfl ?_
    refine rgu 15 (some 51) rfl ?_
    refine rgu 16 (some 52) rfl ?_
    refine rgu 17 (some 53) rfl ?_
    try simp only [Act.put, List.setIfInBounds_toArray, List.set_cons_zero, List.set_cons_succ]
    refine rg_next (i := 7) (l := #[true, true, true, true, true, true, true, true, true, true, true, true, true, true, true, true, true, true, false]) (fuel := 1) (by kernel_rfl) rfl (by kernel_rfl) (by kernel_rfl) (fun K hK => ?_)
    go_simp
    go_at_call 28
    refine (rphys27_any r' HRp.out p.ad HPO.out.a0 HPO.out.a1 _).mono ?_
    rintro e w7 ⟨rfl, hb⟩
    have RB7 := Lib.hid (RBU.keep (RB6.out.kp0 (Kp.refl [] wr).drew) hb)
    have O7 := Lib.hid (own_belowG (own_drew3 O6.out) hb)
    have K07 := Lib.hid (Blk.below (w := wr.drew) K06.out hb (Blk.lt (w := wr) K06.out))
    have HB7 := Lib.hid hb
    have HQ7 := Lib.hid (own_at O7.out HPP.out)
    clear hb
    first | (refine hK.out _ _ ?_ (fun hHeld => ?_)) | (go_wp2_with fail; refine hK.out _ _ ?_ (fun hHeld => ?_))
    ·(try dsimp only); exact ⟨K07.out, HQ7.out.1, HQ7.out.2.1, HQ7.out.2.2.2⟩
    clear hK K
    try simp only [Act.put, List.setIfInBounds_toArray, List.set_cons_zero, List.set_cons_succ]
    refine rg_next (i := 18) (l := #[true, true, true, true, true, true, true, true, true, true, true, true, true, true, true, true, true, true, true]) (fuel := 0) (by kernel_rfl) rfl (by kernel_rfl) (by kernel_rfl) (fun K hK => ?_)
    go_simp
    go_at_call 27
    refine (rbwrite1 HOJ.out.1 HOJ.out.2 HGD.out RB7.out HC3.out HFT.out.1 HFT.out.2 (phI (pgF r') p.ad) p.dt p.kd HPB.out.1 HPB.out.2 HPO.out.d0 HPO.out.d1).mono ?_
    rintro e w8 ⟨t8, rfl, b8, k8, f8⟩
    have K7 := Lib.hid ((K6.out.drew).trans (Kp.of_below HB7.out) (fun x hx => .inl hx))
    have K8 := Lib.hid (K7.out.trans k8 (fun x hx => F6.out x hx))
    have F8 := Lib.hid (show ∀ y ∈ rbL g { Q3 with tr := t8 }, y ∈ rbL g Q3 ∨ w5.heap.size ≤ y from fun y hy => (f8 y hy).elim (fun h => F6.out y h) (fun h => .inr (Nat.le_trans K7.out.size h)))
    have K08 := Lib.hid (K05.out.kp K8.out (HOFF.out _ (Nat.le_refl _) L02.out.1))
    have O8 := Lib.hid (own_kp O5.out K8.out (fun b hb => by have e : b1 = b := (by simpa [Value.ownBlock] using hb); rw [← e]; exact HOFF.out _ HB1.out.1 HB1.out.2))
    have HQ8 := Lib.hid (own_at O8.out HPP.out)
    rw [← ES.out] at b8
    have RB8 := Lib.hid b8
    clear b8 k8 f8
    first | (refine hK.out _ _ ?_ (fun hHeld => ?_)) | (go_wp2_with fail; refine hK.out _ _ ?_ (fun hHeld => ?_))
    ·(try dsimp only); exact ⟨K08.out, HQ8.out.1, HQ8.out.2.1, HQ8.out.2.2.2⟩
    clear hK K
    try simp only [Act.put, List.setIfInBounds_toArray, List.set_cons_zero, List.set_cons_succ]
    refine wpAnyH_done (by kernel_rfl) ?_ _
    clear RB6 K06 K16 O6 q0 q1 q2 q3 HQQ RB7 O7 K07 HQ7
    go_wp2_with fail
    go_roundw
    case rel => exact ⟨j + 1, by omega, by go_num, by rw [HTW.out], t8, rfl, by rw [HSN.out]; exact RB8.out, K8.out, F8.out⟩
    case measure => simp [intOf]; omega
   | false =>
    rw [hpw] at q2
    have hpb := Lib.hid hpw
    have eS : sn = sj.rdS1 d (phI (pgF r') p.ad) p.kd := by rw [HS.out]; unfold acS; rw [if_neg (by simp [hpw])]
    have eV : acV d r' sj p = sj.rdV1 d (phI (pgF r') p.ad) := by unfold acV; rw [if_neg (by simp [hpw])]
    have ES := Lib.hid eS
    have EV := Lib.hid eV
    have hvb := rbV1_byte RB6.out ⟨rfl, rfl⟩ HC3.out HOJ.out (phI (pgF r') p.ad)
    obtain ⟨x, hx⟩ : ∃ x, sj.rdV1 d (phI (pgF r') p.ad) = x := ⟨_, rfl⟩
    rw [hx] at hvb
    have HX := Lib.hid hx
    obtain ⟨x0, x1⟩ := hvb
    clear eS eV hpw hx
    go_upto_region 13 with fail
    refine rg_begin (S := fun w' => Blk w' w.heap.size 32 (stA r') ∧ w'.cell? ⟨b1, j * 4, none⟩ = some (.int .u8 p.kd) ∧ w'.cell? ⟨b1, j * 4 + 1, none⟩ = some (.int .u16 p.ad)) 15 #[false, false, false, false, false, false, false, false, false, false, false, false, false, false, false] (by kernel_rfl) (by kernel_rfl) (by kernel_rfl) ?_ (fun hHeld => ?_)
    ·exact ⟨K06.out.drew_, HQQ.out.1, HQQ.out.2.1⟩
    refine rgu 0 (some 55) rfl ?_
    refine rgt 1 (some 56) (v := .agg (stA r')) rfl ?_ ?_
    ·(intro wS hSw; (try dsimp only at hSw); exact erow_load r' rfl rfl hSw.1)
    refine rgu 2 (some 57) rfl ?_
    refine rgu 3 (some 58) rfl ?_
    refine rgu 4 (some 59) rfl ?_
    refine rgu 5 (some 60) rfl ?_
    refine rgu 6 (some 61) rfl ?_
    refine rgu 8 (some 63) rfl ?_
    refine rgu 9 (some 64) rfl ?_
    refine rgu 10 (some 65) rfl ?_
    refine rgu 11 (some 66) rfl ?_
    refine rgu 12 (some 67) rfl ?_
    try simp only [Act.put, List.setIfInBounds_toArray, List.set_cons_zero, List.set_cons_succ]
    refine rg_next (i := 7) (l := #[true, true, true, true, true, true, true, true, true, true, true, true, true, false, false]) (fuel := 2) (by kernel_rfl) rfl (by kernel_rfl) (by kernel_rfl) (fun K hK => ?_)
    go_simp
    go_at_call 28
    refine (rphys27_any r' HRp.out p.ad HPO.out.a0 HPO.out.a1 _).mono ?_
    rintro e w7 ⟨rfl, hb⟩
    have RB7 := Lib.hid (RBU.keep (RB6.out.kp0 (Kp.refl [] wr).drew) hb)
    have O7 := Lib.hid (own_belowG (own_drew3 O6.out) hb)
    have K07 := Lib.hid (Blk.below (w := wr.drew) K06.out hb (Blk.lt (w := wr) K06.out))
    have HB7 := Lib.hid hb
    have HQ7 := Lib.hid (own_at O7.out HPP.out)
    clear hb
    first | (refine hK.out _ _ ?_ (fun hHeld => ?_)) | (go_wp2_with fail; refine hK.out _ _ ?_ (fun hHeld => ?_))
    ·(try dsimp only); exact ⟨K07.out, HQ7.out.1, HQ7.out.2.1⟩
    clear hK K
    try simp only [Act.put, List.setIfInBounds_toArray, List.set_cons_zero, List.set_cons_succ]
    refine rg_next (i := 13) (l := #[true, true, true, true, true, true, true, true, true, true, true, true, true, true, false]) (fuel := 1) (by kernel_rfl) rfl (by kernel_rfl) (by kernel_rfl) (fun K hK => ?_)
    go_simp
    go_at_call 29
    refine (rbread1 HOJ.out.1 HOJ.out.2 HGD.out RB7.out HC3.out HFT.out.1 HFT.out.2 (phI (pgF r') p.ad) p.kd HPB.out.1 HPB.out.2).mono ?_
    rw [HX.out]
    rintro e w8 ⟨t8, rfl, b8, k8, f8⟩
    have K7 := Lib.hid ((K6.out.drew).trans (Kp.of_below HB7.out) (fun x hx => .inl hx))
    have K8 := Lib.hid (K7.out.trans k8 (fun x hx => F6.out x hx))
    have F8 := Lib.hid (show ∀ y ∈ rbL g { Q3 with tr := t8 }, y ∈ rbL g Q3 ∨ w5.heap.size ≤ y from fun y hy => (f8 y hy).elim (fun h => F6.out y h) (fun h => .inr (Nat.le_trans K7.out.size h)))
    have K08 := Lib.hid (K05.out.kp K8.out (HOFF.out _ (Nat.le_refl _) L02.out.1))
    have O8 := Lib.hid (own_kp O5.out K8.out (fun b hb => by have e : b1 = b := (by simpa [Value.ownBlock] using hb); rw [← e]; exact HOFF.out _ HB1.out.1 HB1.out.2))
    have HQ8 := Lib.hid (own_at O8.out HPP.out)
    rw [← ES.out] at b8
    have RB8 := Lib.hid b8
    clear b8 k8 f8
    first | (refine hK.out _ _ ?_ (fun hHeld => ?_)) | (go_wp2_with fail; refine hK.out _ _ ?_ (fun hHeld => ?_))
    ·(try dsimp only); exact ⟨K08.out, HQ8.out.1, HQ8.out.2.1⟩
    clear hK K
    refine rgu 14 (some 10) rfl ?_
    try simp only [Act.put, List.setIfInBounds_toArray, List.set_cons_zero, List.set_cons_succ]
    refine wpAnyH_done (by kernel_rfl) ?_ _
    clear RB6 K06 K16 O6 q0 q1 q2 q3 HQQ RB7 O7 K07 HQ7
    have u0 : IntKind.u16.wrap x = x := IntWalk.u16_in _ (by omega)
    by_cases hj5 : j = 5
    ·subst hj5
     have e : x = va := by
      have h := H5.out
      rw [HPP.out] at h
      injection h with h
      rw [← HX.out, ← EV.out, ← HSJ.out, h]
      exact HA5.out
     have HE := Lib.hid e
     have f1 : (((5 : Nat) : Int) == 5) = true := rfl
     have f2 : (((5 : Nat) : Int) == 6) = false := rfl
     clear e
     go_wp2_with fail
     go_roundw
     case rel => exact ⟨6, by omega, by go_num, by rw [HE.out]; rfl, t8, rfl, by rw [HSN.out]; exact RB8.out, K8.out, F8.out⟩
     case measure => simp [intOf]
    by_cases hj6 : j = 6
    ·subst hj6
     have e : x = vb := by
      have h := H6.out
      rw [HPP.out] at h
      injection h with h
      rw [← HX.out, ← EV.out, ← HSJ.out, h]
      exact HB6.out
     have HE := Lib.hid e
     have hvA := HVAB.out
     have f1 : (((6 : Nat) : Int) == 5) = false := rfl
     have f2 : (((6 : Nat) : Int) == 6) = true := rfl
     have u1 : IntKind.u16.wrap (256 * x) = 256 * x := IntWalk.u16_in _ (by omega)
     have ez : toW va vb 6 = va := rfl
     have u2 : IntKind.u16.wrap (va + 256 * x) = va + 256 * x := IntWalk.u16_in _ (by omega)
     rw [ez]
     clear e ez
     go_wp2_with fail
     go_roundw
     case rel => exact ⟨7, by omega, by go_num, by rw [HE.out]; rfl, t8, rfl, by rw [HSN.out]; exact RB8.out, K8.out, F8.out⟩
     case measure => simp [intOf]
    ·have f1 : ((j : Int) == 5) = false := by simp; omega
     have f2 : ((j : Int) == 6) = false := by simp; omega
     have HTW := Lib.hid (toW_same va vb hj5 hj6)
     clear hj5 hj6
     go_wp2_with fail
     go_roundw
     case rel => exact ⟨j + 1, by omega, by go_num, by rw [HTW.out], t8, rfl, by rw [HSN.out]; exact RB8.out, K8.out, F8.out⟩
     case measure => simp [intOf]; omega
  ·obtain rfl : j = 8 := by omega
   have ht8 : L.take 8 = L := List.take_of_length_le (by rw [HLL.out]; exact Nat.le_refl _)
   have hft : (rnS d r' s1 L).fit (K + 1 + L.length) := fit_rn _ HF1.out
   have rb6 := RB6.out
   rw [ht8] at rb6
   rw [← HSS.out] at rb6 hft
   have RB7 := Lib.hid rb6
   have HFT := Lib.hid hft
   have hz : toW va vb 8 = wordI va vb := by
    obtain ⟨⟨a0, a1⟩, b0, b1⟩ := HVAB.out
    rw [wordI_eq va vb a0 a1 b0 b1]
    rfl
   rw [hz]
   have hcl := rb6.cells.2.2.2.1
   clear ht8 hft rb6 hz hlt hj RB6
   go_wp2_with fail
   refine (rbturn_any RB7.out HFT.out.2).mono ?_
   rintro e w8 ⟨t8, rfl, b8, k8, f8⟩
   have K8 := Lib.hid (K6.out.trans k8 (fun x hx => F6.out x hx))
   have F8 := Lib.hid (show ∀ y ∈ rbL g { Q3 with tr := t8 }, y ∈ rbL g Q3 ∨ w5.heap.size ≤ y from fun y hy => (f8 y hy).elim (fun h => F6.out y h) (fun h => .inr (Nat.le_trans K6.out.size h)))
   have K08 := Lib.hid (K05.out.kp K8.out (HOFF.out _ (Nat.le_refl _) L02.out.1))
   have K18 := Lib.hid (K15.out.kp K8.out (HOFF.out _ (Nat.le_succ _) L02.out.2))
   have RB8 := Lib.hid b8
   clear b8 k8 f8 RB7 K6 F6 K06 K16 O6 hcl
   have kk8 := K08.out
   go_wp2_with (first
    | (refine wpList_load_row rfl 32 (.tmp 4) rfl w.heap.size (by rfl) 32 (stA r') (0, 0) _ kk8 Tryz.underlying32 rfl (H8.out r') ?_)
    | (go_at_call 56; refine (rafter_any k r' (wordI va vb) _ (HRp.out 4 (by omega)).1 (HRp.out 4 (by omega)).2).mono ?_; rintro e w9 ⟨rfl, hb⟩; have K19 := Lib.hid (K18.out.below hb K18.out.lt); have HB9 := Lib.hid hb; have hst := K19.out.run_store (P := Tryz.prog) (stA (entP k r' (wordI va vb))) rfl (stA_one _); have hsE := stA_size (entP k r' (wordI va vb)); clear hb))
   have kz : Kp [w.heap.size + 1] w9 (w9.setRow (w.heap.size + 1) (stA (entP k r' (wordI va vb)))) := (Kp.refl _ _).setRow (.inl (by simp)) _
   have RB9 := RB8.out.keep HB9.out
   have RB10 := RB9.kp kz (fun y hy hy2 => by
    have e : y = w.heap.size + 1 := (by simpa using hy2)
    rw [e] at hy
    rcases F8.out _ hy with h | h
    ·exact HOFF.out _ (Nat.le_succ _) L02.out.2 h
    ·have := K15.out.lt; omega) (fun y hy => by have e : y = w.heap.size + 1 := (by simpa using hy); have := HOLD.out; omega)
   have k8w : Kp (rbL g Q) w w8 := CK5.out.trans K8.out (fun x hx => CF3.out x hx)
   have K10 := (k8w.trans (Kp.of_below HB9.out) (fun x hx => .inl hx)).trans kz (fun x hx => .inr (by have e : x = w.heap.size + 1 := (by simpa using hx); omega))
   have HD := (K19.out.row (stA (entP k r' (wordI va vb)))).run_load (P := Tryz.prog) Tryz.underlying32 rfl size_state
   (try simp only [Exit.inBlock, Exit.then])
   refine bodyPost_ret (results_cell (a := ⟨w.heap.size + 1, 0, none⟩) Tryz.results14 (by rfl) HD) rfl ?_
   rw [HQE.out] at RB10
   refine ⟨nx3, t8, ?_, RB10, K10, fun y hy => ?_⟩
   ·rw [HVA.out, HVB.out, ← HRQ.out]; first | rw [entP_thr] | (have e := entP_thr 1 r (wordI va vb); exact congrArg (fun z => Ending.returned (Value.agg (stA z))) e)
   ·rw [← HQE.out] at hy
    exact (F8.out y hy).elim (fun h => CF3.out y h) (fun h => .inr (Nat.le_trans CK5.out.size h))
theorem rdo_rb {W w : World} {g : Nat} {d : Hd} {Q : Rbp} {s : Bs} {nx : Bool} {K : Nat} {r : Nat → Int} (k : Nat) (hk : 1 ≤ k ∧ k ≤ 5) (h : RBU W w g d Q s nx) (C : HC W d Q.Z) (hG : Good d.n d.es) (hoks : ∀ i, i ≤ 8 → OkS d (rnS d (thr k r) (s.ent k) ((ePL k r).take i))) (hr : StOk r) (hf : s.fit K) (hK : K ≤ 90000) :
  Calls Tryz.prog 14 #[.pointer (some ⟨g, 0, none⟩), .agg (stA r), .int .u8 (k : Int)] w fun e w' => ∃ nx', RbR (.agg (stA (entP k r (wordI (doA d k r s) (doB d k r s))))) W g d Q (doR d k r s).tn nx' w e w' := by
 by_cases h1 : k = 1
 ·subst h1; exact rdo_one h C hG hoks hr hf hK
 ·exact rdo_more k (by omega) h C hG hoks hr hf hK
end Go.Proofs.YtndhkdcdhpfajaaGreat
