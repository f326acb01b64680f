/-
  Texts of these proofs, one behind the other: G21, Mix3.
-/
import Derived.Test.YtaamfcbpelbboaaDoorKM19
import Derived.Test.YtaamfcbpelbboaaDoorKM18
import Derived.Deep.Cut
import Derived.Deep.CutRange
namespace Go.Proofs.YtaamfcbpelbboaaDoor
open Go.ChangeShapes Go.WideShapes Go.Deep Go.RowKit
set_option linter.unusedVariables false
/-- What a field is. -/
inductive FK where
  | int (k : IntKind)
  | bool
def FK.desc : FK → TypeDesc
  | .int k => .int k
  | .bool => .bool
def FK.ok : FK → Value → Prop
  | .int k, v => ∃ z, v = .int k z ∧ (Lit.int k z).wf = true
  | .bool, v => ∃ b, v = .bool b
section
variable {H : Type} {enc : TypeId × Value → H} {P : Program} {w : World} {base : Nat} {r : Reach} {b0 : Nat} {t e : TypeId} {v : Value} {d : DataW H} {ps : List MemPlace}
theorem slice_fk (fs : Array Field) (ks : List FK) (ht : P.underlying t = some (.slice e)) (he : P.underlying e = some (.struct fs)) (hone : oneCellFields P fs = true) (hC : P.cellsOf e = fs.size) (hl0 : fs.size = ks.length) (hpos : 0 < ks.length)
    (hk : ∀ (j : Nat) (k : FK), ks[j]? = some k → ∃ f : Field, fs[j]? = some f ∧ P.underlying f.type = some k.desc)
    (hval : Value.okWide P w r b0 t v) (hd : DataW.Trod enc P w base (fun _ => true) true t v d ps) :
    ∃ (A : Option Addr) (n cap : Nat) (qs : Nat → Nat → Value), v = .slice A n cap ∧ n ≤ cap ∧ cap ≤ maxLen ∧ FRow w ks.length A n qs ∧ (∀ i, i < n → ∀ (j : Nat) (k : FK), ks[j]? = some k → k.ok (qs i j)) ∧ (A = none → n = 0 ∧ cap = 0) := by
  obtain ⟨a0, len, cap, rfl⟩ := okWide_slice ht hval
  obtain ⟨fuel, hf⟩ := hd
  rcases open_slice_fields ht he hone hC hf with ⟨hcs, _⟩ | ⟨a, len', cap', m, D, Pl, hcs, _, hl, hm, hmm, _, hi⟩
  · simp only [Value.cells, List.cons.injEq, Value.slice.injEq, and_true] at hcs
    obtain ⟨rfl, rfl, rfl⟩ := hcs
    exact ⟨none, 0, 0, fun _ _ => .nilFunc, rfl, Nat.le_refl _, by unfold maxLen; omega, fun i hi => absurd hi (by omega), fun i hi => absurd hi (by omega), fun _ => ⟨rfl, rfl⟩⟩
  · simp only [Value.cells, List.cons.injEq, Value.slice.injEq, and_true] at hcs
    obtain ⟨rfl, rfl, rfl⟩ := hcs
    simp only [if_true] at hmm
    have key : ∀ i, i < len → ∀ (j : Nat) (k : FK), ks[j]? = some k → ∃ u, w.cell? (a.add (i * ks.length + j)) = some u ∧ k.ok u := fun i hil j k hj => by
      obtain ⟨f, hfj, hfu⟩ := hk j k hj
      obtain ⟨ys, n, _, _, _, hfs⟩ := hi i (by omega)
      obtain ⟨u, y, c, _, tr⟩ := hfs j f hfj
      rw [hl0] at c
      refine ⟨u, c, ?_⟩
      cases k with
      | int k =>
        obtain ⟨z, e0, _, wz⟩ := DataW.trod_int hfu tr
        simp only [List.cons.injEq, and_true] at e0
        exact ⟨z, e0, wz⟩
      | bool =>
        obtain ⟨b, e0, _⟩ := DataW.trod_bool hfu tr
        simp only [List.cons.injEq, and_true] at e0
        exact ⟨b, e0⟩
    have key2 : ∀ i j, i < len → j < ks.length → ∃ u, w.cell? (a.add (i * ks.length + j)) = some u ∧ ∀ k : FK, ks[j]? = some k → k.ok u := fun i j hil hj => by
      obtain ⟨u, h1, h2⟩ := key i hil j ks[j] (List.getElem?_eq_getElem hj)
      refine ⟨u, h1, fun k hk => ?_⟩
      rw [List.getElem?_eq_getElem hj] at hk
      injection hk with hk
      subst hk
      exact h2
    classical
    refine ⟨some a, len, cap, fun i j => if h : i < len ∧ j < ks.length then Classical.choose (key2 i j h.1 h.2) else .nilFunc, rfl, hl, hm, fun i hil => ⟨a, rfl, ?_, ?_⟩, fun i hil j k hj => ?_, fun x => by cases x⟩
    · have := cell_lt (Classical.choose_spec (key2 i 0 hil hpos)).1; rwa [block_of_add] at this
    · intro j hj
      have h : i < len ∧ j < ks.length := ⟨hil, hj⟩
      simp only [dif_pos h]
      exact (Classical.choose_spec (key2 i j hil hj)).1
    · have hj' : j < ks.length := (List.getElem?_eq_some_iff.1 hj).1
      have h : i < len ∧ j < ks.length := ⟨hil, hj'⟩
      simp only [dif_pos h]
      exact (Classical.choose_spec (key2 i j hil hj')).2 k hj
theorem array_bools {n : Nat} (ht : P.underlying t = some (.array n e)) (he : P.underlying e = some .bool) (hc : P.cellsOf e = 1) (hC : P.cellsOf t = n) (hval : Value.okWide P w r b0 t v) (hd : DataW.Trod enc P w base (fun _ => true) true t v d ps) :
    ∃ (cs : Array Value) (zs : Nat → Bool), v = .agg cs ∧ cs.size = n ∧ (∀ i, i < n → cs[i]? = some (.bool (zs i))) := by
  have h0 : ∃ cs, v = .agg cs ∧ cs.size = P.cellsOf t := by
    simp only [Value.okWide, ht] at hval
    obtain ⟨cs, h1, h2, _⟩ := hval
    exact ⟨cs, h1, h2⟩
  obtain ⟨cs, rfl, hs⟩ := h0
  rw [hC] at hs
  obtain ⟨fuel, hf⟩ := hd
  obtain ⟨xs, m, _, _, _, hx, hi⟩ := DataW.trod_array ht hf
  have key : ∀ i, i < n → ∃ z : Bool, cs[i]? = some (.bool z) := fun i hil => by
    have h1 := hi i hil
    have hlen : i < cs.toList.length := by simpa using (by omega : i < cs.size)
    rw [hc, Nat.mul_one, show (Value.agg cs).cells.toList = cs.toList from rfl, List.drop_eq_getElem_cons hlen] at h1
    have hxi : i < xs.length := by omega
    rw [List.getElem?_eq_getElem hxi] at h1
    simp only [List.take_succ_cons, List.take_zero] at h1
    obtain ⟨z, e0, _⟩ := DataW.trod_bool he h1
    simp only [List.cons.injEq, and_true] at e0
    refine ⟨z, ?_⟩
    rw [← Array.getElem?_toList, List.getElem?_eq_getElem hlen, e0]
  classical
  refine ⟨cs, fun i => if h : i < n then Classical.choose (key i h) else false, rfl, hs, fun i hil => ?_⟩
  simp only [dif_pos hil]; exact Classical.choose_spec (key i hil)
theorem four_bools {cs : Array Value} {zs : Nat → Bool} (hs : cs.size = 4) (h : ∀ i, i < 4 → cs[i]? = some (.bool (zs i))) : cs = #[.bool (zs 0), .bool (zs 1), .bool (zs 2), .bool (zs 3)] := by
  apply Array.ext_getElem?
  intro i
  by_cases hi : i < 4
  · rw [h i hi]
    have : i = 0 ∨ i = 1 ∨ i = 2 ∨ i = 3 := by omega
    rcases this with rfl | rfl | rfl | rfl <;> rfl
  · rw [Array.getElem?_eq_none (by omega), Array.getElem?_eq_none (by simp; omega)]
end
end Go.Proofs.YtaamfcbpelbboaaDoor
namespace Go.Proofs.YtaamfcbpelbboaaDoor
open Go.RowKit
set_option linter.unusedVariables false
set_option linter.unusedSimpArgs false
set_option maxRecDepth 100000
theorem conv_fi {a : Nat} {n : Int} (h : IsI a n) (w : World) : (convert 82 3 (.float .f64 a)).run Tryd.prog w = .ok (.int .i64 n) w :=
  run_convert_float_int w 82 3 .f64 .i64 a n (by rw [Tryd.underlying82]; rfl) Tryd.underlying3 (isI_toInt h)
theorem conv_if (n : Int) (w : World) : (convert 3 82 (.int .i64 n)).run Tryd.prog w = .ok (.float .f64 (floatOfInt .f64 n)) w :=
  run_convert_int_float w 3 82 .i64 .f64 n (by rw [Tryd.underlying3]; rfl) Tryd.underlying82
theorem parts_any {a b : Nat} {x y : Int} (ha : IsI a x) (hb : IsI b y) (w : World) : Calls Tryd.prog 28 #[.complex .f64 a b] w fun e w' => e = .returned (.tuple #[.int .i64 x, .int .i64 y]) ∧ w = w' := by
  have ca := conv_fi ha
  have cb := conv_fi hb
  clear ha hb
  go_enter Tryd.func28, Tryd.ntmps28
  go_wp2
  go_ret2
  exact ⟨rfl, rfl⟩
theorem conj_any (a b : Nat) (w : World) : Calls Tryd.prog 30 #[.complex .f64 a b] w fun e w' => e = .returned (.complex .f64 a (Op.negFloat .f64 b)) ∧ w = w' := by
  have hn : ∀ w, (Op.unary .neg (.float .f64 b)).run Tryd.prog w = .ok (.float .f64 (Op.negFloat .f64 b)) w := fun _ => rfl
  go_enter Tryd.func30, Tryd.ntmps30
  go_wp2
  go_ret
  exact ⟨rfl, rfl⟩
/-- So many voices lie at A. -/
def VR (w : World) (A : Option Addr) (n : Nat) (v : Nat → Vc) : Prop := FRow w 4 A n (fun i j => .int .u8 ((v i).fld j)) ∧ ∀ i, i < n → (v i).ok
theorem VR.keep {w w' : World} {A : Option Addr} {n : Nat} {v : Nat → Vc} (h : VR w A n v) (hb : Below w.heap.size w w') : VR w' A n v := ⟨h.1.keep hb, h.2⟩
/-- The cells of one voice, as a walk spells them. -/
theorem VR.at_ {w : World} {A : Option Addr} {n : Nat} {v : Nat → Vc} (h : VR w A n v) (i : Nat) (hi : i < n) : ∃ ad : Addr, A = some ad ∧ ad.block < w.heap.size ∧ w.cell? (ad.add (i * 4)) = some (.int .u8 (v i).lv) ∧
    w.cell? ⟨(ad.add (i * 4)).block, (ad.add (i * 4)).off + 1, none⟩ = some (.int .u8 (v i).vo) ∧ w.cell? ⟨(ad.add (i * 4)).block, (ad.add (i * 4)).off + 2, none⟩ = some (.int .u8 (v i).lf) ∧ w.cell? ⟨(ad.add (i * 4)).block, (ad.add (i * 4)).off + 3, none⟩ = some (.int .u8 (v i).rt) ∧ (v i).ok := by
  obtain ⟨ad, e, hl, hc⟩ := h.1 i hi
  refine ⟨ad, e, hl, hc 0 (by decide), ?_, ?_, ?_, h.2 i hi⟩
  · have := hc 1 (by decide); rw [← add_of_add] at this; exact this
  · have := hc 2 (by decide); rw [← add_of_add] at this; exact this
  · have := hc 3 (by decide); rw [← add_of_add] at this; exact this
def lefts (v : Nat → Vc) (m : Int) : Nat → Int := sumTo fun i => (v i).left m
def rights (v : Nat → Vc) (m : Int) : Nat → Int := sumTo fun i => (v i).right m
theorem lefts_bd (v : Nat → Vc) (m : Int) (n : Nat) (h : n ≤ 300) : (lefts v m n).natAbs ≤ 38092800 := by
  have := sum_bd (f := fun i => (v i).left m) (n := n) fun i _ => side_bd _ _ _ _
  unfold lefts; omega
theorem rights_bd (v : Nat → Vc) (m : Int) (n : Nat) (h : n ≤ 300) : (rights v m n).natAbs ≤ 38092800 := by
  have := sum_bd (f := fun i => (v i).right m) (n := n) fun i _ => side_bd _ _ _ _
  unfold rights; omega
theorem tog_any {w : World} (hT : TabAt w 0 4 pw) {A : Option Addr} {n c : Nat} {v : Nat → Vc} (hV : VR w A n v) (hn : n ≤ 300) (l r : Int) (l0 : 0 ≤ l) (l1 : l ≤ 255) (r0 : 0 ≤ r) (r1 : r ≤ 255) :
    Calls Tryd.prog 29 #[.int .u8 l, .int .u8 r, .slice A n c] w fun e w' => ∃ a b, e = .returned (.complex .f64 a b) ∧ IsI a (lefts v l n) ∧ IsI b (rights v r n) ∧ Below w.heap.size w w' := by
  have HT := Lib.hid hT
  have HV := Lib.hid hV
  clear hT hV
  go_enter Tryd.func29, Tryd.ntmps29
  go_wp2_with fail
  go_loopw [7, 15] (fun z i wr => ∃ (k : Nat) (a b : Nat), k ≤ n ∧ i = .int .i64 k ∧ z = .complex .f64 a b ∧ IsI a (lefts v l k) ∧ IsI b (rights v r k) ∧ Below w.heap.size w wr) (fun _ i _ => n - (intOf i).toNat)
  case atStart => exact ⟨0, 0, 0, by omega, rfl, rfl, isI_zero, isI_zero, Below.refl _ _⟩
  case round =>
    obtain ⟨k, a, b, hk, rfl, rfl, ha, hb, hB⟩ := hrel
    by_cases hlt : k < n
    · have i1 : (k : Int) < n := by omega
      obtain ⟨ad, rfl, hl, q0, q1, q2, q3, ⟨a0, a1⟩, ⟨a2, a3⟩, ⟨a4, a5⟩, a6, a7⟩ := (HV.out.keep hB).at_ k hlt
      have hL : (v k).left l = sideOf (v k).lv (v k).vo (v k).lf l := rfl
      have hR : (v k).right r = sideOf (v k).lv (v k).vo (v k).rt r := rfl
      obtain ⟨lv, e0⟩ : ∃ x, (v k).lv = x := ⟨_, rfl⟩
      obtain ⟨vo, e1⟩ : ∃ x, (v k).vo = x := ⟨_, rfl⟩
      obtain ⟨lf, e2⟩ : ∃ x, (v k).lf = x := ⟨_, rfl⟩
      obtain ⟨rt, e3⟩ : ∃ x, (v k).rt = x := ⟨_, rfl⟩
      rw [e0] at q0 a0 a1 hL hR
      rw [e1] at q1 a2 a3 hL hR
      rw [e2] at q2 a4 a5 hL
      rw [e3] at q3 a6 a7 hR
      obtain ⟨s, hs⟩ : ∃ x, sideOf lv vo lf l = x := ⟨_, rfl⟩
      obtain ⟨t, ht⟩ : ∃ x, sideOf lv vo rt r = x := ⟨_, rfl⟩
      have hsb := hs ▸ side_bd lv vo lf l
      have htb := ht ▸ side_bd lv vo rt r
      rw [hs] at hL
      rw [ht] at hR
      have f1 : lefts v l (k + 1) = lefts v l k + s := by unfold lefts; rw [sumTo, hL]
      have f2 : rights v r (k + 1) = rights v r k + t := by unfold rights; rw [sumTo, hR]
      have hbd1 := lefts_bd v l k (by omega)
      have hbd2 := rights_bd v r k (by omega)
      obtain ⟨a', b', hadd, ha', hb'⟩ := isI_csum ha hb (isI_of s (by omega)) (isI_of t (by omega)) (by omega) (by omega)
      have cs := conv_if s
      have ct := conv_if t
      have hsum : ∀ w, (binOp .add 60 (.complex .f64 a b) (.complex .f64 (floatOfInt .f64 s) (floatOfInt .f64 t))).run Tryd.prog w = .ok (.complex .f64 a' b') w := fun w => run_complex_sum w .add (.inl rfl) _ _ _ _ _ _ _ _ hadd
      unfold sideOf at hs ht
      have hp1 := pwr_bd (lssOf vo lf l)
      have hp2 := pwr_bd (lssOf vo rt r)
      obtain ⟨p1, e4⟩ : ∃ x, pwr (lssOf vo lf l) = x := ⟨_, rfl⟩
      obtain ⟨p2, e5⟩ : ∃ x, pwr (lssOf vo rt r) = x := ⟨_, rfl⟩
      rw [e4] at hs hp1
      rw [e5] at ht hp2
      have HA := Lib.hid (f1 ▸ ha')
      have HC := Lib.hid (f2 ▸ hb')
      have HB := Lib.hid hB
      have E4 := Lib.hid e4
      have E5 := Lib.hid e5
      have HTk := Lib.hid (HT.out.below hB)
      clear ha hb ha' hb' hadd hB f1 f2 hL hR e0 e1 e2 e3 e4 e5 hbd1 hbd2
      go_wp2_with fail
      refine (mloss_any vo lf l a2 a3 a4 a5 l0 l1 _).mono ?_
      rintro e w' ⟨rfl, rfl⟩
      go_wp2_with fail
      refine (power_any (HTk.out.below ((Below.refl _ _).alloc (Nat.le_refl _) _)) _).mono ?_
      rw [E4.out]
      rintro e w' ⟨rfl, rfl⟩
      go_wp2_with fail
      refine (mloss_any vo rt r a2 a3 a6 a7 r0 r1 _).mono ?_
      rintro e w' ⟨rfl, rfl⟩
      go_wp2_with fail
      refine (power_any (HTk.out.below ((Below.refl _ _).alloc (Nat.le_refl _) _)) _).mono ?_
      rw [E5.out]
      rintro e w' ⟨rfl, rfl⟩
      go_wp2_with fail
      go_roundw
      case rel => exact ⟨k + 1, a', b', by omega, by go_num, rfl, HA.out, HC.out, HB.out.alloc HB.out.size _⟩
      case measure => simp [intOf]; omega
    · have i1 : ¬ (k : Int) < n := by omega
      have : k = n := by omega
      subst this
      have HA := Lib.hid ha
      have HC := Lib.hid hb
      have HB := Lib.hid hB
      clear ha hb hB
      go_wp2_with fail
      go_ret
      exact ⟨a, b, rfl, HA.out, HC.out, HB.out⟩
end Go.Proofs.YtaamfcbpelbboaaDoor
