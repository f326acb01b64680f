/-
  Texts of these proofs, one behind the other: Mov5, Mov6, Mov7, Mov8.
-/
import Derived.Test.YtdfjpdcnjjgljaaDoorKMC18
import Derived.Test.YtdfjpdcnjjgljaaDoorKMC19
import Derived.Test.YtdfjpdcnjjgljaaDoorKMC01
import Derived.Test.YtdfjpdcnjjgljaaDoorRows
import Derived.ProofKit
import Derived.LaidMore
import Derived.OpenShut
import Derived.Stop.Joined
import Derived.Lay
import Derived.Deep.RegionWith
namespace Go.Proofs.YtdfjpdcnjjgljaaDoor
open Go.ChangeShapes Go.WideShapes Go.ChangeAt Go.RowKit
set_option linter.unusedVariables false
set_option linter.unusedSimpArgs false
set_option maxRecDepth 100000
def nmB : Nat → ByteArray | 0 => ⟨#[84, 73, 73]⟩ | 1 => ⟨#[84, 68, 68]⟩ | 2 => ⟨#[84, 73, 78]⟩ | 3 => ⟨#[84, 73, 65]⟩ | _ => ⟨#[84, 65, 73]⟩
def Tabs (w : World) : Prop := 2 < w.heap.size ∧ ∀ k, k < 5 → w.cell? ⟨2, k, none⟩ = some (.string (nmB k))
theorem Tabs.below {w w' : World} (h : Tabs w) (hb : Below w.heap.size w w') : Tabs w' := ⟨Nat.lt_of_lt_of_le h.1 hb.size, fun k hk => (World.cell?_of_block (hb.block _ h.1)).trans (h.2 k hk)⟩
set_option maxHeartbeats 4000000 in
theorem q26_kind {w : World} (h : Tabs w) : Calls Tryd.prog 52 #[.string ⟨#[84, 65, 73]⟩] w fun e w' => e = .returned (.tuple #[.int .u8 4, .bool true]) ∧ w = w' := by
  have c0 : w.cell? ⟨2, 0, none⟩ = some (.string ⟨#[84, 73, 73]⟩) := h.2 0 (by decide)
  have c1 : w.cell? ⟨2, 1, none⟩ = some (.string ⟨#[84, 68, 68]⟩) := h.2 1 (by decide)
  have c2 : w.cell? ⟨2, 2, none⟩ = some (.string ⟨#[84, 73, 78]⟩) := h.2 2 (by decide)
  have c3 : w.cell? ⟨2, 3, none⟩ = some (.string ⟨#[84, 73, 65]⟩) := h.2 3 (by decide)
  have c4 : w.cell? ⟨2, 4, none⟩ = some (.string ⟨#[84, 65, 73]⟩) := h.2 4 (by decide)
  clear h
  have hx0 : ∀ W : World, (Instr.index 104 (.agg #[.string ⟨#[84, 73, 73]⟩, .string ⟨#[84, 68, 68]⟩, .string ⟨#[84, 73, 78]⟩, .string ⟨#[84, 73, 65]⟩, .string ⟨#[84, 65, 73]⟩]) (.int .i64 0)).run Tryd.prog W = .ok (.string ⟨#[84, 73, 73]⟩) W := fun W => by kernel_rfl
  have hx1 : ∀ W : World, (Instr.index 104 (.agg #[.string ⟨#[84, 73, 73]⟩, .string ⟨#[84, 68, 68]⟩, .string ⟨#[84, 73, 78]⟩, .string ⟨#[84, 73, 65]⟩, .string ⟨#[84, 65, 73]⟩]) (.int .i64 1)).run Tryd.prog W = .ok (.string ⟨#[84, 68, 68]⟩) W := fun W => by kernel_rfl
  have hx2 : ∀ W : World, (Instr.index 104 (.agg #[.string ⟨#[84, 73, 73]⟩, .string ⟨#[84, 68, 68]⟩, .string ⟨#[84, 73, 78]⟩, .string ⟨#[84, 73, 65]⟩, .string ⟨#[84, 65, 73]⟩]) (.int .i64 2)).run Tryd.prog W = .ok (.string ⟨#[84, 73, 78]⟩) W := fun W => by kernel_rfl
  have hx3 : ∀ W : World, (Instr.index 104 (.agg #[.string ⟨#[84, 73, 73]⟩, .string ⟨#[84, 68, 68]⟩, .string ⟨#[84, 73, 78]⟩, .string ⟨#[84, 73, 65]⟩, .string ⟨#[84, 65, 73]⟩]) (.int .i64 3)).run Tryd.prog W = .ok (.string ⟨#[84, 73, 65]⟩) W := fun W => by kernel_rfl
  have hx4 : ∀ W : World, (Instr.index 104 (.agg #[.string ⟨#[84, 73, 73]⟩, .string ⟨#[84, 68, 68]⟩, .string ⟨#[84, 73, 78]⟩, .string ⟨#[84, 73, 65]⟩, .string ⟨#[84, 65, 73]⟩]) (.int .i64 4)).run Tryd.prog W = .ok (.string ⟨#[84, 65, 73]⟩) W := fun W => by kernel_rfl
  go_enter Tryd.func52, Tryd.ntmps52
  go_wp2
  go_rounds 6

  go_ret2
  exact ⟨rfl, rfl⟩
set_option maxHeartbeats 4000000 in
theorem vapply_kind (k : Nat) (hk : 5 ≤ k) (hk2 : k < 256) (f t l : Int) (A : Option Addr) (n c : Nat) (w : World) : Calls Tryd.prog 34 #[.int .u8 (k : Int), .int .u16 f, .int .u16 t, .int .u16 l, .slice A n c] w fun e w' => e = .returned (.tuple #[.slice none 0 0, .int .i64 12]) ∧ w = w' := by
  have k0 : (5 : Int) ≤ k := by omega
  have k9 : (k : Int) ≤ 255 := by omega
  go_enter Tryd.func34, Tryd.ntmps34
  go_wp2
  go_ret2
  exact ⟨rfl, rfl⟩
set_option maxHeartbeats 4000000 in
theorem vapply_len (k : Nat) (hk : k < 5) (f t l : Int) (A : Option Addr) (n c : Nat) (hn : n = 0 ∨ 65536 < n) (w : World) : Calls Tryd.prog 34 #[.int .u8 (k : Int), .int .u16 f, .int .u16 t, .int .u16 l, .slice A n c] w fun e w' => e = .returned (.tuple #[.slice none 0 0, .int .i64 2]) ∧ w = w' := by
  have k0 : ¬ (5 : Int) ≤ k := by omega
  rcases hn with rfl | h
  · go_enter Tryd.func34, Tryd.ntmps34
    go_wp2
    go_ret2
    exact ⟨rfl, rfl⟩
  · have n0 : ((n : Int) == 0) = false := by simp; omega
    have n1 : (65536 : Int) < n := by omega
    go_enter Tryd.func34, Tryd.ntmps34
    go_wp2
    go_ret2
    exact ⟨rfl, rfl⟩
theorem wyRow {w : World} {B : Nat} {v : Value} {k : Nat} {f t : Int} {l : List Nat} (own : w.ownsRow B 48 2 v l.length (wyV k f t l)) (hl : l ≠ []) : ∃ g cap, v = .slice (some ⟨g, 0, none⟩) l.length cap ∧ B ≤ g ∧ g < w.heap.size ∧ ∀ (i x : Nat), l[i]? = some x → w.cell? ⟨g, 2 * i, none⟩ = some (.int .u16 (mvF k f (x : Int))) ∧ w.cell? ⟨g, 2 * i + 1, none⟩ = some (.int .u16 (mvT k t (x : Int))) := by
  rcases own.2 with ⟨h, h0⟩ | ⟨g, cap, cur, h, hg, hb, _, _, hs, ht⟩
  · exact absurd (List.length_eq_zero_iff.1 h0) hl
  · refine ⟨g, cap, h, hg, (Array.getElem?_eq_some_iff.1 hb).1, fun i x hx => ?_⟩
    have hi := (List.getElem?_eq_some_iff.1 hx).1
    have key : ∀ (l : List Nat) (i x : Nat), l[i]? = some x → (wyV k f t l)[2 * i]? = some (.int .u16 (mvF k f (x : Int))) ∧ (wyV k f t l)[2 * i + 1]? = some (.int .u16 (mvT k t (x : Int))) := by
      intro l
      induction l with
      | nil => intro i x hx; simp at hx
      | cons y l ih =>
        intro i x hx
        have e : wyV k f t (y :: l) = .int .u16 (mvF k f (y : Int)) :: .int .u16 (mvT k t (y : Int)) :: wyV k f t l := by simp [wyV]
        rw [e]
        rcases i with _ | i
        · obtain rfl : y = x := by simpa using hx
          exact ⟨rfl, rfl⟩
        · have := ih i x (by simpa using hx)
          rw [show 2 * (i + 1) = 2 * i + 1 + 1 by omega]
          simpa using this
    obtain ⟨e1, e2⟩ := key l i x hx
    rw [← ht, List.getElem?_take, if_pos (by omega), Array.getElem?_toList] at e1 e2
    exact ⟨by simp [World.cell?, hb, e1], by simp [World.cell?, hb, e2]⟩
end Go.Proofs.YtdfjpdcnjjgljaaDoor
namespace Go.Proofs.YtdfjpdcnjjgljaaDoor
open Go.ChangeShapes Go.WideShapes Go.ChangeAt Go.RowKit
set_option linter.unusedVariables false
set_option linter.unusedSimpArgs false
set_option maxRecDepth 100000
theorem q26_all (w : World) : Calls Tryd.prog 29 #[.int .u8 3, .int .u16 5, .int .u16 9, .int .u16 3] w fun e w' => (∃ g cap, e = .returned (.slice (some ⟨g, 0, none⟩) 3 cap) ∧ w'.cell? ⟨g, 4, none⟩ = some (.int .u16 7) ∧ w'.cell? ⟨g, 5, none⟩ = some (.int .u16 9)) ∧ Below w.heap.size w w' := by
  refine (vall_any 3 5 9 3 (by decide) (by decide) (by decide) (by decide) (by decide) (by decide) w).mono fun e w' h => ?_
  obtain ⟨v, rfl, own, hB⟩ := h
  obtain ⟨g, cap, rfl, _, _, hc⟩ := wyRow own (by decide +kernel)
  obtain ⟨c1, c2⟩ := hc 2 2 (by decide +kernel)
  exact ⟨⟨g, cap, rfl, c1, c2⟩, hB⟩
def z26 : Nat → Int := fun i => if i = 0 then 7 else 0
theorem IRow.lit {w : World} {g : Nat} {t : TypeId} {cs : Array Value} (h : Blk w g t cs) (n : Nat) (z : Nat → Int) (hz : ∀ i, i < n → cs[i]? = some (.int .u8 (z i)) ∧ 0 ≤ z i ∧ z i ≤ 255) : IRow w .u8 (some ⟨g, 0, none⟩) n z := fun i hi => by
  obtain ⟨e, a, b⟩ := hz i hi
  refine ⟨_, rfl, h.lt, ?_, by simp [Lit.wf, IntKind.min, IntKind.max, IntKind.signed, IntKind.bits]; omega⟩
  rw [add_zero_block, h.cell]
  exact e
theorem four (i : Nat) (h : i < 4) : i = 0 ∨ i = 1 ∨ i = 2 ∨ i = 3 := by omega
theorem q26_apply (w : World) : Calls Tryd.prog 34 #[.int .u8 0, .int .u16 0, .int .u16 1, .int .u16 3, .slice (some ⟨w.heap.size, 0, none⟩) 4 4] (w.alloc (.cells #[.int .u8 7, .int .u8 0, .int .u8 0, .int .u8 0] 5)) fun e w' => (∃ g cap, e = .returned (.tuple #[.slice (some ⟨g, 0, none⟩) 4 cap, .int .i64 0]) ∧ IRow w' .u8 (some ⟨g, 0, none⟩) 4 (fun _ => 7)) ∧ Below w.heap.size w w' := by
  refine (vapply_ok 0 (by decide) 0 1 3 (by decide) (by decide) (by decide) (by decide) (by decide) (by decide) ⟨w.heap.size, 0, none⟩ 4 4 z26 (by decide) (by decide) _ (IRow.lit (Blk.new w _ _) 4 z26 fun i hi => ?_)).mono fun e w' h => ?_
  · rcases four i hi with rfl | rfl | rfl | rfl <;> exact ⟨rfl, by decide, by decide⟩
  · obtain ⟨g, cap, rfl, _, _, R, _, hB⟩ := h
    refine ⟨⟨g, cap, rfl, R.congr fun i hi => ?_⟩, ((Below.refl _ w).alloc (Nat.le_refl _) _).trans (hB.mono (by simp))⟩
    rcases four i hi with rfl | rfl | rfl | rfl <;> decide +kernel
theorem q26_count (w : World) : Calls Tryd.prog 33 #[.int .u16 0] w fun e w' => e = .returned (.int .i64 65536) ∧ w = w' := vcount_any 0 (by decide) (by decide) w
set_option maxHeartbeats 8000000 in
theorem live26 {w : World} (hT : Tabs w) : Calls Tryd.prog 27 #[] w fun e w' => e = .returned (.bool true) ∧ Below w.heap.size w w' := by
  have HT := Lib.hid hT
  clear hT
  go_enter Tryd.func27, Tryd.ntmps27
  go_wp2_with fail
  refine (q26_all _).mono ?_
  rintro e w1 ⟨⟨g, cap, rfl, hc1, hc2⟩, b⟩
  have HB1 := Lib.hid b
  clear b
  go_wp2_with fail
  refine (q26_apply _).mono ?_
  rintro e w2 ⟨⟨g2, cap2, rfl, R⟩, b⟩
  have l1 := cell_lt hc1
  have l2 := cell_lt hc2
  replace hc1 := (b.cell (by exact l1)).trans hc1
  replace hc2 := (b.cell (by exact l2)).trans hc2
  have HB2 := Lib.hid (HB1.out.trans (b.mono HB1.out.size))
  have HR := Lib.hid R
  clear b R
  go_wp2_with fail
  refine (q26_kind (HT.out.below HB2.out)).mono ?_
  rintro e w' ⟨rfl, rfl⟩
  go_wp2_with fail
  refine (asame2 (by decide) (HR.out.keep ((Below.refl _ w2).alloc (Nat.le_refl _) (.cells #[.int .u8 7, .int .u8 7, .int .u8 7, .int .u8 7] 5))) (IRow.lit (Blk.new w2 _ _) 4 (fun _ => 7) (fun i hi => by rcases four i hi with rfl | rfl | rfl | rfl <;> exact ⟨rfl, by decide, by decide⟩)) (fun i _ => rfl)).mono ?_
  rintro e w3 ⟨rfl, b⟩
  have HB3 := Lib.hid ((HB2.out.alloc HB2.out.size (.cells #[.int .u8 7, .int .u8 7, .int .u8 7, .int .u8 7] 5)).trans (b.mono (HB2.out.alloc HB2.out.size _).size))
  clear b
  go_wp2_with (go_at_call 33; refine (q26_count _).mono ?_; rintro e w' ⟨rfl, rfl⟩)
  go_ret
  exact ⟨rfl, HB3.out⟩
theorem tabs_of {P : Program} {w : World} {nm : String} {g n fuel : Nat} {t e : TypeId} {cs : Array Value} {f : Nat → List UInt8} {p : List MemPlace} (hg : P.globalNamed nm = some g) (ht : P.underlying t = some (.array n e)) (he : P.underlying e = some .string) (ce : P.cellsOf e = 1) (hn : 0 < n)
    (hv : w.var? P nm = some cs) (hd : DataW.trod (fun _ => ()) P w 0 (fun _ => true) false fuel t cs.toList = some (.agg ((List.range n).map fun i => .lit (.string (f i))), p)) : g < w.heap.size ∧ ∀ k, k < n → w.cell? ⟨g, k, none⟩ = some (.string ⟨(f k).toArray⟩) := by
  obtain ⟨xs, m, rfl, hx, hl, hxn, hel⟩ := DataW.trod_array ht hd
  have hc : ∀ k, k < n → w.cell? ⟨g, k, none⟩ = some (.string ⟨(f k).toArray⟩) := fun k hk => by
    have h1 := hel k hk
    have hxk : xs[k]? = some (xs[k]'(by omega)) := List.getElem?_eq_getElem (by omega)
    rw [hxk, ce, Nat.mul_one] at h1
    obtain ⟨z, e1, e2, _⟩ := DataW.trod_string he h1
    have e3 : (xs[k]'(by omega)).1 = .lit (.string (f k)) := by
      have h2 : (xs.map (·.1))[k]? = some (xs[k]'(by omega)).1 := by rw [List.getElem?_map, hxk]; rfl
      have h3 : (xs.map (·.1)) = (List.range n).map fun i => .lit (.string (f i)) := by
        simp only [Prod.mk.injEq, DataW.agg.injEq] at hx
        exact hx.1.symm
      rw [h3] at h2
      simpa [hk] using h2.symm
    rw [e2] at e3
    simp only [DataW.lit.injEq, Lit.string.injEq] at e3
    have ez : z = ⟨(f k).toArray⟩ := by rw [← e3]
    rw [ez] at e1
    have := World.var?_cell hg hv k
    rw [this]
    have h4 : cs.toList[k]? = some (.string ⟨(f k).toArray⟩) := by
      have h5 : (cs.toList.drop k)[0]? = some (.string ⟨(f k).toArray⟩) := by
        have : ((cs.toList.drop k).take 1)[0]? = some (.string ⟨(f k).toArray⟩) := by rw [e1]; rfl
        simpa using this
      simpa using h5
    simpa using h4
  exact ⟨cell_lt (hc 0 hn), hc⟩
def nmU : Nat → List UInt8 | 0 => [84, 73, 73] | 1 => [84, 68, 68] | 2 => [84, 73, 78] | 3 => [84, 73, 65] | _ => [84, 65, 73]
theorem gNam : Tryd.prog.globalNamed "gannet/moves.names" = some 2 := by kernel_rfl
theorem tNam : (Tryd.prog.globals[2]?).map (·.type) = some 104 := by kernel_rfl
abbrev laid2 : List (String × DataW Unit) := [("gannet/moves.names", Rows.laid_gannet_moves_names)]
theorem of_laid {W : World} (h : laidMet Tryd.prog laid2 W) : Tabs W := by
  obtain ⟨ps, ⟨g0, t0, cs0, f0, p0, q0, hg0, ht0, hv0, hd0, _, _⟩, _, _⟩ := h
  obtain rfl := Option.some.inj (gNam.symm.trans hg0)
  obtain rfl := Option.some.inj (tNam.symm.trans ht0)
  have c3 : Tryd.prog.cellsOf 9 = 1 := by kernel_rfl
  obtain ⟨h1, h2⟩ := tabs_of (f := nmU) gNam Tryd.underlying104 Tryd.underlying9 c3 (by decide) hv0 hd0
  exact ⟨h1, fun k hk => by
    rw [h2 k hk]
    have : k = 0 ∨ k = 1 ∨ k = 2 ∨ k = 3 ∨ k = 4 := by omega
    rcases this with rfl | rfl | rfl | rfl | rfl <;> rfl⟩
end Go.Proofs.YtdfjpdcnjjgljaaDoor
namespace Go.Proofs.YtdfjpdcnjjgljaaDoor
open Go.RowKit
set_option linter.unusedVariables false
set_option linter.unusedSimpArgs false
set_option maxRecDepth 100000
theorem mvF_add (k : Nat) (f : Int) (X i : Nat) (h : X % 2 = 0) : mvF k f ((X + i : Nat) : Int) = mvF k (mvF k f (X : Int)) (i : Int) := by
  unfold mvF
  split
  · omega
  · split <;> omega
theorem mvT_add (k : Nat) (t : Int) (X i : Nat) (h : X % 2 = 0) : mvT k t ((X + i : Nat) : Int) = mvT k (mvT k t (X : Int)) (i : Int) := by
  unfold mvT
  split
  · omega
  · split
    · omega
    · split <;> omega
/-- In two parts it is as in one. -/
theorem mvM_add (k : Nat) (f t : Int) (n : Nat) (X : Nat) (h : X % 2 = 0) : ∀ (Y : Nat) (z : Nat → Int), mvM k f t n z (List.range (X + Y)) = mvM k (mvF k f (X : Int)) (mvT k t (X : Int)) n (mvM k f t n z (List.range X)) (List.range Y) := by
  intro Y
  induction Y with
  | zero => intro z; rfl
  | succ Y ih =>
    intro z
    rw [show X + (Y + 1) = X + Y + 1 by omega, List.range_succ, List.range_succ, mvM_snoc, mvM_snoc, ih z, mvF_add k f X Y h, mvT_add k t X Y h]
theorem cntP_nat (l : Nat) (h : l ≠ 0) : (cntP (l : Int)).toNat = l := by
  unfold cntP
  rw [if_neg (by omega)]
  omega
theorem none_zero {w : World} {n : Nat} {z : Nat → Int} (R : IRow w .u8 none n z) : n = 0 := by
  rcases Nat.eq_zero_or_pos n with h | h
  · exact h
  · obtain ⟨ad, e, _⟩ := R 0 h
    cases e
/-- Behind a new row of no bytes those of a slice that came in. -/
theorem vclone_run {w : World} (ty : TypeId) (ad : Addr) (n c : Nat) (z : Nat → Int) (hn : 0 < n) (hm : n ≤ 140737488355328) (R : IRow w .u8 (some ad) n z) :
    ∃ g cap C w', (Builtin.append_ #[26, 26] ty #[.slice (some ⟨w.heap.size, 0, none⟩) 0 0, .slice (some ad) n c]).run Tryd.prog (w.alloc (.cells #[] 5)) = .ok (.slice (some ⟨g, 0, none⟩) n cap) w' ∧ w.heap.size ≤ g ∧ n ≤ cap ∧ cap ≤ maxLen ∧ Blk w' g 5 C ∧ (∀ j, j < n → C[j]? = some (.int .u8 (z j))) ∧ Below w.heap.size w w' := by
  obtain ⟨i, hi, hzz⟩ := Option.map_eq_some_iff.1 u8_info'
  simp only [Prod.mk.injEq] at hzz
  obtain ⟨hz, hs, hb⟩ := hzz
  have hB0 : Below w.heap.size w (w.alloc (.cells #[] 5)) := (Below.refl _ _).alloc (Nat.le_refl _) _
  have R0 := R.keep hB0
  have hown0 : (w.alloc (.cells #[] 5)).ownsRow w.heap.size 5 1 (.slice (some ⟨w.heap.size, 0, none⟩) 0 0) 0 [] :=
    ⟨rfl, Or.inr ⟨w.heap.size, 0, #[], rfl, Nat.le_refl _, heap_alloc_new w _, Nat.le_refl _, by unfold maxLen; omega, rfl, rfl⟩⟩
  obtain ⟨v', w', h1, h2, h3, _, _⟩ := run_append_own_at (P := Tryd.prog) (w.alloc (.cells #[] 5)) w.heap.size 26 ty 5 i (.int .u8 0) 1 1 Tryd.underlying26 hi hz hs hb rfl (by omega) _ 0 [] hown0 ad n c (bytesOf z n) (by rw [bytesOf_len]; omega)
    (fun j u hu => by
      have hj : j < n := by have := (List.getElem?_eq_some_iff.1 hu).1; rwa [bytesOf_len] at this
      rw [bytesOf_at z n j hj] at hu
      injection hu with hu
      subst hu
      obtain ⟨ae, e, _, hc, _⟩ := R0 j hj
      injection e with e
      subst e
      exact hc)
    (bytesOf_one z n) (by unfold maxLen; omega) (by omega) hB0.size
  rw [Nat.zero_add, List.nil_append] at h2
  rcases h2.2 with ⟨h, h0⟩ | ⟨g, cap, cur, rfl, hg, hh, hnc, hcm, hsz, htk⟩
  · omega
  · refine ⟨g, cap, cur, w', h1, hg, hnc, hcm, hh, fun j hj => ?_, hB0.grown h3 hB0.size (fun j e => by simp [Value.ownBlock] at e; omega)⟩
    have e1 : (cur.toList.take (n * 1))[j]? = (bytesOf z n)[j]? := by rw [htk]
    rw [bytesOf_at z n j hj, List.getElem?_take, if_pos (by omega), Array.getElem?_toList] at e1
    exact e1
end Go.Proofs.YtdfjpdcnjjgljaaDoor
namespace Go.Proofs.YtdfjpdcnjjgljaaDoor
open Go.RowKit
set_option linter.unusedVariables false
set_option linter.unusedSimpArgs false
set_option maxRecDepth 100000
theorem mvM_up (F T n : Nat) (hF : F + n ≤ 256) (hT : T + n ≤ 256) (z : Nat → Int) : ∀ q, q ≤ n →
    (∀ j, j < 256 → ¬ (T ≤ j ∧ j < T + q) → mvM 0 (F : Int) (T : Int) 256 z (List.range q) j = z j) ∧
    ((T ≤ F ∨ F + n ≤ T) → ∀ i, i < q → mvM 0 (F : Int) (T : Int) 256 z (List.range q) (T + i) = z (F + i)) := by
  intro q
  induction q with
  | zero => intro _; exact ⟨fun j _ _ => rfl, fun _ i hi => by omega⟩
  | succ q ih =>
    intro hq
    obtain ⟨h1, h2⟩ := ih (by omega)
    have eT : (mvT 0 (T : Int) (q : Int)).toNat % 256 = T + q := by unfold mvT; simp; omega
    have eF : (mvF 0 (F : Int) (q : Int)).toNat % 256 = F + q := by unfold mvF; simp; omega
    rw [List.range_succ, mvM_snoc, eT, eF]
    refine ⟨fun j hj hn => ?_, fun ha i hi => ?_⟩
    · dsimp only
      rw [if_neg (by omega)]; exact h1 j hj (by omega)
    · dsimp only
      by_cases e : i = q
      · subst e
        rw [if_pos rfl]; exact h1 _ (by omega) (by omega)
      · rw [if_neg (by omega)]; exact h2 ha i (by omega)
theorem mvM_down (F T n : Nat) (hF : F + n ≤ 256) (hT : T + n ≤ 256) (z : Nat → Int) : ∀ q, q ≤ n →
    (∀ j, j < 256 → ¬ (T + n ≤ j + q ∧ j < T + n) → mvM 1 ((F : Int) + n - 1) ((T : Int) + n - 1) 256 z (List.range q) j = z j) ∧
    ((F ≤ T ∨ T + n ≤ F) → ∀ i, i < q → mvM 1 ((F : Int) + n - 1) ((T : Int) + n - 1) 256 z (List.range q) (T + n - 1 - i) = z (F + n - 1 - i)) := by
  intro q
  induction q with
  | zero => intro _; exact ⟨fun j _ _ => rfl, fun _ i hi => by omega⟩
  | succ q ih =>
    intro hq
    obtain ⟨h1, h2⟩ := ih (by omega)
    have eT : (mvT 1 ((T : Int) + n - 1) (q : Int)).toNat % 256 = T + n - 1 - q := by unfold mvT; simp; omega
    have eF : (mvF 1 ((F : Int) + n - 1) (q : Int)).toNat % 256 = F + n - 1 - q := by unfold mvF; simp; omega
    rw [List.range_succ, mvM_snoc, eT, eF]
    refine ⟨fun j hj hn => ?_, fun ha i hi => ?_⟩
    · dsimp only
      rw [if_neg (by omega)]; exact h1 j hj (by omega)
    · dsimp only
      by_cases e : i = q
      · subst e
        rw [if_pos rfl]; exact h1 _ (by omega) (by omega)
      · rw [if_neg (by omega)]; exact h2 ha i (by omega)
/-- What MovesCopies counts: V stands behind the block, z before. -/
def CopR (F T n : Nat) (ahead : Bool) (z V : Nat → Int) : Prop := ∀ j, j < 256 → if T ≤ j ∧ j < T + n then (ahead = false → V j = z (F + j - T)) else V j = z j
theorem cop_up (F T n : Nat) (hF : F + n ≤ 256) (hT : T + n ≤ 256) (z : Nat → Int) (ah : Bool) (ha : ah = false → T ≤ F ∨ F + n ≤ T) : CopR F T n ah z (mvM 0 (F : Int) (T : Int) 256 z (List.range n)) := by
  obtain ⟨h1, h2⟩ := mvM_up F T n hF hT z n (Nat.le_refl _)
  intro j hj
  split
  · intro e
    have := h2 (ha e) (j - T) (by omega)
    rw [show T + (j - T) = j by omega, show F + (j - T) = F + j - T by omega] at this
    exact this
  · exact h1 j hj (by omega)
theorem cop_down (F T n : Nat) (hF : F + n ≤ 256) (hT : T + n ≤ 256) (z : Nat → Int) (ah : Bool) (ha : ah = false → F ≤ T ∨ T + n ≤ F) : CopR F T n ah z (mvM 1 ((F : Int) + n - 1) ((T : Int) + n - 1) 256 z (List.range n)) := by
  obtain ⟨h1, h2⟩ := mvM_down F T n hF hT z n (Nat.le_refl _)
  intro j hj
  split
  · intro e
    have := h2 (ha e) (T + n - 1 - j) (by omega)
    rw [show T + n - 1 - (T + n - 1 - j) = j by omega, show F + n - 1 - (T + n - 1 - j) = F + j - T by omega] at this
    exact this
  · exact h1 j hj (by omega)
end Go.Proofs.YtdfjpdcnjjgljaaDoor
