/-
  Texts of these proofs, one behind the other: Scr27, Scr26.
-/
import Derived.Test.YtnhnphifhkkboaaDoorKSW36
import Derived.Test.YtnhnphifhkkboaaDoorKSW38
import Derived.Test.YtnhnphifhkkboaaDoorKSW19
namespace Go.Proofs.YtnhnphifhkkboaaDoor
open Go.RowKit Go.Shelf
set_option linter.unusedVariables false
set_option linter.unusedSimpArgs false
set_option maxRecDepth 100000
/-- What the image's making gives. -/
def ImgR (S : Nat) (td : Td) (w : World) (e : Ending) (w' : World) : Prop :=
  ∃ A n c fe fj, e = .returned (.tuple #[.slice A n c, .agg #[.int .i64 fe, .int .i64 fj]]) ∧ Below w.heap.size w w' ∧
    ((fe = 1 ∧ goodB (S : Int) td.rom = false) ∨ (fe = 0 ∧ goodB (S : Int) td.rom = true ∧ SlZ w' A n c S (laid (pL td.rom) td.rom.length)))
theorem rimg_any {B g : Nat} {td : Td} {vP vV vC vR vE : Value} {w : World} (h : RTdH B g td vP vV vC vR vE w) (hW : TdW td) (pg : Int) (S : Nat) (hpg : td.pg = some pg) (hS : (S : Int) = pg * 8192) :
    Calls Tryd.prog 53 #[.int .i64 pg, vP] w fun e w' => ImgR S td w e w' := by
  have hpgb := hW.pg pg hpg
  have hmay : mayB pg = true := decide_eq_true hpgb
  have hS1 : S ≤ 1048576 := by omega
  obtain ⟨ps, e1, e2, e3, e4⟩ := h.rom
  obtain ⟨A, cap, qs, rfl, f1, f2, f3, f4⟩ := row_pieces e2 e3 (fun q hq => by
    have := hW.rom (q.1, q.2.2) (by rw [e1]; exact List.mem_map.2 ⟨q, hq, rfl⟩)
    exact ⟨this.1, this.2.1, this.2.2.1⟩)
  rw [← e1] at f4
  have hml : td.rom.length = ps.length := by rw [e1, List.length_map]
  have hmm : ps.length ≤ maxLen := Nat.le_trans f1 f2
  refine (rmake_any pg S A ps.length cap qs w hmay hS hmm f3).mono ?_
  have hgood : ∀ i, i < ps.length → (good S (qs i) ↔ good S (pL td.rom i)) := fun i hi => good_congr (f4 i hi).1 (f4 i hi).2.1
  rintro e w2 ⟨b2, ⟨j, hj, hbad, hbef, rfl⟩ | ⟨hgd, gM, CM, rfl, hgM, hbM, hAM⟩⟩
  · refine ⟨none, 0, 0, 1, j, rfl, b2, Or.inl ⟨rfl, ?_⟩⟩
    cases hg : goodB (S : Int) td.rom with
    | false => rfl
    | true =>
      rw [goodB_iff] at hg
      exact absurd ((hgood j hj).2 (hg j (by omega))) hbad
  · refine ⟨some ⟨gM, 0, none⟩, S, S, 0, 0, rfl, b2, Or.inr ⟨rfl, ?_, rfl, Nat.le_refl _, by unfold maxLen; omega, fun i hi => ?_, fun ad x => by cases x; exact ⟨_, hbM⟩, fun x => by cases x⟩⟩
    · rw [goodB_iff]
      intro i hi
      exact (hgood i (by omega)).1 (hgd i (by omega))
    · refine ⟨_, rfl, hbM.lt, ?_, ?_⟩
      · rw [add_zero_block, hbM.cell i]
        have := hAM.2 i hi
        rw [laid_congr ps.length i f4, ← hml] at this
        simpa using this
      · refine u8_wf ?_
        rcases laid_or (pL td.rom) td.rom.length i with ⟨q, hq, h1, h2, h3⟩ | ⟨_, h3⟩
        · rw [h3]
          have e : td.rom.getD q (0, []) = td.rom[q] := by simp [List.getD, hq]
          have hwq := hW.rom td.rom[q] (List.getElem_mem hq)
          unfold pL at h1 h2 ⊢
          rw [e] at h1 h2 ⊢
          dsimp only at h1 h2 ⊢
          have hz : ((i : Int) - td.rom[q].1).toNat < td.rom[q].2.length := by omega
          have : zL td.rom[q].2 ((i : Int) - td.rom[q].1).toNat = td.rom[q].2[((i : Int) - td.rom[q].1).toNat] := by simp [zL, List.getD, hz]
          rw [this]
          exact hwq.2.2.1 _ (List.getElem_mem hz)
        · rw [h3]; decide
/-- A script out of what was told. -/
theorem scr_of {B g : Nat} {td : Td} {vP vV vC vR vE : Value} {w : World} (h : RTdH B g td vP vV vC vR vE w) (hW : TdW td) (hO : TdOk 100000000000 td) (pg bg : Int) (S : Nat) (hpg : td.pg = some pg) (hbg : td.bg = some bg) (hS : (S : Int) = pg * 8192) {A : Option Addr} {n c : Nat}
    (hM : SlZ w A n c S (laid (pL td.rom) td.rom.length)) (hgd : goodB (S : Int) td.rom = true) :
    ∃ AV nV kV AC nC kC AR nR kR AE nE kE, vV = .slice AV nV kV ∧ vC = .slice AC nC kC ∧ vR = .slice AR nR kR ∧ vE = .slice AE nE kE ∧
      ScrV w ⟨A, n, c, AV, nV, kV, AC, nC, kC, AR, nR, kR, AE, nE, kE, bg⟩ (psT td) ∧ SvOk ⟨A, n, c, AV, nV, kV, AC, nC, kC, AR, nR, kR, AE, nE, kE, bg⟩ ∧ ERow w AE nE (eL td.edges) ∧ scrE td = (chkS n nV nC nR (eL td.edges) nE bg).1 := by
  have hpgb := hW.pg pg hpg
  have hbgb := hW.bg bg hbg
  have hS1 : S ≤ 1048576 := by omega
  have hn : n = S := hM.1
  obtain ⟨AV, kV, rfl, v1, v2, v3, v4, v5, v6⟩ := row_bytes h.rv hW.vdc
  obtain ⟨AC, kC, rfl, x1, x2, x3, x4, x5, x6⟩ := row_bytes h.rc hW.vce
  obtain ⟨AR, kR, rfl, p1, p2, p3, p4, p5, p6⟩ := row_bytes h.rr hW.port
  obtain ⟨AE, kE, rfl, g1, g2, g3, g4, g5, g6⟩ := row_edges h.re
  have e1 := hO.vdc; have e2 := hO.vce; have e3 := hO.port; have e4 := hO.edges
  have hPP : psT td = ⟨S, laid (pL td.rom) td.rom.length, td.vdc, td.vce, td.port, td.edges, bg⟩ := by
    unfold psT; rw [hpg, hbg]; simp only [Option.getD_some, ← hS, Int.toNat_natCast]
  refine ⟨AV, _, kV, AC, _, kC, AR, _, kR, AE, _, kE, rfl, rfl, rfl, rfl, ?_, ?_, g3, ?_⟩
  · rw [hPP]
    exact ⟨hM, ⟨rfl, v1, v2, v3, v4, v5⟩, ⟨rfl, x1, x2, x3, x4, x5⟩, ⟨rfl, p1, p2, p3, p4, p5⟩, ⟨rfl, g1, g2, g3, g4, g5⟩, rfl⟩
  · exact ⟨by show n ≤ _; omega, by show td.vdc.length ≤ _; omega, by show td.vce.length ≤ _; omega, by show td.port.length ≤ _; omega, by show td.edges.length ≤ _; omega, by show -9223372036854775808 ≤ bg; omega, by show bg ≤ 9223372036854775807; omega⟩
  · unfold scrE; rw [hpg, hbg]; simp only [← hS, Int.toNat_natCast]; rw [if_pos hgd, hn]
theorem scrE_bad {td : Td} {pg bg : Int} {S : Nat} (hpg : td.pg = some pg) (hbg : td.bg = some bg) (hS : (S : Int) = pg * 8192) (hgd : goodB (S : Int) td.rom = false) : scrE td = 1 := by
  unfold scrE; rw [hpg, hbg]; simp only [← hS]; rw [if_neg (by rw [hgd]; simp)]
theorem scrE_no {td : Td} (h : td.pg = none ∨ td.bg = none) : scrE td = 5 := by
  unfold scrE
  rcases h with e | e
  · rw [e]
  · rw [e]; cases td.pg <;> rfl
end Go.Proofs.YtnhnphifhkkboaaDoor
namespace Go.Proofs.YtnhnphifhkkboaaDoor
open Go.RowKit Go.Shelf
set_option linter.unusedVariables false
set_option linter.unusedSimpArgs false
set_option maxRecDepth 100000
theorem fin_eight {B r q : Nat} {a w : World} {c0 c1 c2 c3 c4 c5 e0 e1 : Value} (h : Blk w r 27 #[c0, c1, c2, c3, c4, c5]) (hf : Blk w q 34 #[e0, e1]) (hb : Below B a w) (hr : B ≤ r) (hq : B ≤ q) (hne : q ≠ r) (v0 v1 v2 v3 v4 v5 u0 u1 : Value) :
    Below B a ((((((((w.setCell ⟨r, 0, none⟩ v0).setCell ⟨r, 1, none⟩ v1).setCell ⟨r, 2, none⟩ v2).setCell ⟨r, 3, none⟩ v3).setCell ⟨r, 4, none⟩ v4).setCell ⟨r, 5, none⟩ v5).setCell ⟨q, 0, none⟩ u0).setCell ⟨q, 1, none⟩ u1) ∧
    Blk ((((((((w.setCell ⟨r, 0, none⟩ v0).setCell ⟨r, 1, none⟩ v1).setCell ⟨r, 2, none⟩ v2).setCell ⟨r, 3, none⟩ v3).setCell ⟨r, 4, none⟩ v4).setCell ⟨r, 5, none⟩ v5).setCell ⟨q, 0, none⟩ u0).setCell ⟨q, 1, none⟩ u1) r 27 #[v0, v1, v2, v3, v4, v5] ∧
    Blk ((((((((w.setCell ⟨r, 0, none⟩ v0).setCell ⟨r, 1, none⟩ v1).setCell ⟨r, 2, none⟩ v2).setCell ⟨r, 3, none⟩ v3).setCell ⟨r, 4, none⟩ v4).setCell ⟨r, 5, none⟩ v5).setCell ⟨q, 0, none⟩ u0).setCell ⟨q, 1, none⟩ u1) q 34 #[u0, u1] := by
  have hz := zero_six h hb hr v0 v1 v2 v3 v4 v5
  have f6 := six_far hf hne v0 v1 v2 v3 v4 v5
  exact ⟨below_set2 hz.1 hq u0 u1, (hz.2.far (p := ⟨q, 0, none⟩) (Ne.symm hne) _).far (p := ⟨q, 1, none⟩) (Ne.symm hne) _, (f6.set_ 0 _).set_ 1 _⟩
theorem rtd0_new {w : World} {B g : Nat} (hb : Blk w g 95 #[.int .i64 (-1), .int .i64 (-1), .slice none 0 0, .slice none 0 0, .slice none 0 0, .slice none 0 0, .slice none 0 0]) (hg : B ≤ g) :
    RTdH B g td0 (.slice none 0 0) (.slice none 0 0) (.slice none 0 0) (.slice none 0 0) (.slice none 0 0) w := {
  blk := hb
  gB := hg
  rom := ⟨[], rfl, World.ownsRow_nil _ _ _ _, fun p hp => by simp at hp, fun p hp => by simp at hp⟩
  rv := World.ownsRow_nil _ _ _ _
  rc := World.ownsRow_nil _ _ _ _
  rr := World.ownsRow_nil _ _ _ _
  re := World.ownsRow_nil _ _ _ _
  d1 := fun q hq => by cases hq
  d2 := fun q hq => by cases hq }
/-- The results, whatever is stored there: and what lies elsewhere. -/
def Fin8 (w W : World) : Prop := ∀ (v0 v1 v2 v3 v4 v5 u0 u1 : Value), Below w.heap.size w ((((((((W.setCell ⟨w.heap.size, 0, none⟩ (v0)).setCell ⟨w.heap.size, 1, none⟩ (v1)).setCell ⟨w.heap.size, 2, none⟩ (v2)).setCell ⟨w.heap.size, 3, none⟩ (v3)).setCell ⟨w.heap.size, 4, none⟩ (v4)).setCell ⟨w.heap.size, 5, none⟩ (v5)).setCell ⟨w.heap.size + 1, 0, none⟩ (u0)).setCell ⟨w.heap.size + 1, 1, none⟩ (u1)) ∧
    Blk ((((((((W.setCell ⟨w.heap.size, 0, none⟩ (v0)).setCell ⟨w.heap.size, 1, none⟩ (v1)).setCell ⟨w.heap.size, 2, none⟩ (v2)).setCell ⟨w.heap.size, 3, none⟩ (v3)).setCell ⟨w.heap.size, 4, none⟩ (v4)).setCell ⟨w.heap.size, 5, none⟩ (v5)).setCell ⟨w.heap.size + 1, 0, none⟩ (u0)).setCell ⟨w.heap.size + 1, 1, none⟩ (u1)) w.heap.size 27 #[v0, v1, v2, v3, v4, v5] ∧
    Blk ((((((((W.setCell ⟨w.heap.size, 0, none⟩ (v0)).setCell ⟨w.heap.size, 1, none⟩ (v1)).setCell ⟨w.heap.size, 2, none⟩ (v2)).setCell ⟨w.heap.size, 3, none⟩ (v3)).setCell ⟨w.heap.size, 4, none⟩ (v4)).setCell ⟨w.heap.size, 5, none⟩ (v5)).setCell ⟨w.heap.size + 1, 0, none⟩ (u0)).setCell ⟨w.heap.size + 1, 1, none⟩ (u1)) (w.heap.size + 1) 34 #[u0, u1]
theorem fin8 {w W : World} (h : Blk W w.heap.size 27 sv0.cs) (hf : Blk W (w.heap.size + 1) 34 #[.int .i64 0, .int .i64 0]) (hb : Below w.heap.size w W) : Fin8 w W := fun v0 v1 v2 v3 v4 v5 u0 u1 => fin_eight h hf hb (Nat.le_refl _) (Nat.le_succ _) (by omega) v0 v1 v2 v3 v4 v5 u0 u1
/-- What holds while a text is read: of memory. -/
def St5 (w : World) (td : Td) (vP vV vC vR vE : Value) (W : World) : Prop :=
  RTdH w.heap.size (w.heap.size + 1 + 1) td vP vV vC vR vE W ∧ Blk W w.heap.size 27 sv0.cs ∧ Blk W (w.heap.size + 1) 34 #[.int .i64 0, .int .i64 0] ∧ Below w.heap.size w W
theorem St5.kp {w W W' : World} {td : Td} {vP vV vC vR vE : Value} {L : List Nat} (h : St5 w td vP vV vC vR vE W) (k : Kp L W W') (hL : ∀ x ∈ L, w.heap.size + 1 < x ∧ ∃ T cs, Blk W x T cs ∧ T ≠ 95 ∧ T ≠ 5 ∧ T ≠ 108 ∧ T ≠ 31) : St5 w td vP vV vC vR vE W' :=
  ⟨h.1.kp k (fun x hx => (hL x hx).2), h.2.1.kp k (fun hx => by have := (hL _ hx).1; omega), h.2.2.1.kp k (fun hx => by have := (hL _ hx).1; omega), h.2.2.2.trans (k.below h.2.2.2.size (fun x hx => by have := (hL x hx).1; omega))⟩
theorem St5.below {w W W' : World} {td : Td} {vP vV vC vR vE : Value} (h : St5 w td vP vV vC vR vE W) (b : Below W.heap.size W W') : St5 w td vP vV vC vR vE W' := h.kp (L := []) (Kp.of_below b) (by simp)
theorem St5.alloc {w W : World} {td : Td} {vP vV vC vR vE : Value} (h : St5 w td vP vV vC vR vE W) (o : Obj) : St5 w td vP vV vC vR vE (W.alloc o) := h.below ((Below.refl _ W).alloc (Nat.le_refl _) o)
theorem St5.drew {w W : World} {td : Td} {vP vV vC vR vE : Value} (h : St5 w td vP vV vC vR vE W) : St5 w td vP vV vC vR vE W.drew := h.kp (L := []) (Kp.refl [] W).drew (by simp)
theorem St5.two {w W : World} {td : Td} {vP vV vC vR vE c0 c1 : Value} {q : Nat} (h : St5 w td vP vV vC vR vE W) (b : Blk W q 34 #[c0, c1]) (hq : w.heap.size + 1 < q) (u v : Value) : St5 w td vP vV vC vR vE ((W.setCell ⟨q, 0, none⟩ u).setCell ⟨q, 1, none⟩ v) :=
  h.kp (((Kp.refl [q] W).setCell (p := ⟨q, 0, none⟩) (.inl (by simp)) u).setCell (p := ⟨q, 1, none⟩) (.inl (by simp)) v) (fun x hx => by
    simp only [List.mem_singleton] at hx
    subst hx
    exact ⟨hq, _, _, b, by decide, by decide, by decide, by decide⟩)
theorem St5.six {w W : World} {td : Td} {vP vV vC vR vE : Value} {q : Nat} {cs : Array Value} (h : St5 w td vP vV vC vR vE W) (b : Blk W q 27 cs) (hq : w.heap.size + 1 < q) (v0 v1 v2 v3 v4 v5 : Value) : St5 w td vP vV vC vR vE ((((((W.setCell ⟨q, 0, none⟩ v0).setCell ⟨q, 1, none⟩ v1).setCell ⟨q, 2, none⟩ v2).setCell ⟨q, 3, none⟩ v3).setCell ⟨q, 4, none⟩ v4).setCell ⟨q, 5, none⟩ v5) :=
  h.kp (((((((Kp.refl [q] W).setCell (p := ⟨q, 0, none⟩) (.inl (by simp)) v0).setCell (p := ⟨q, 1, none⟩) (.inl (by simp)) v1).setCell (p := ⟨q, 2, none⟩) (.inl (by simp)) v2).setCell (p := ⟨q, 3, none⟩) (.inl (by simp)) v3).setCell (p := ⟨q, 4, none⟩) (.inl (by simp)) v4).setCell (p := ⟨q, 5, none⟩) (.inl (by simp)) v5) (fun x hx => by
    simp only [List.mem_singleton] at hx
    subst hx
    exact ⟨hq, _, _, b, by decide, by decide, by decide, by decide⟩)
theorem fault_field (a b : Int) (W : World) : (Instr.field 34 (.agg #[.int .i64 a, .int .i64 b]) 0).run Tryd.prog W = .ok (.int .i64 a) W := by kernel_rfl
def Out (S : Nat) (td : Td) (W : World) (A : Option Addr) (n c : Nat) (fe : Int) : Prop :=
  (fe = 1 ∧ goodB (S : Int) td.rom = false) ∨ (fe = 0 ∧ goodB (S : Int) td.rom = true ∧ SlZ W A n c S (laid (pL td.rom) td.rom.length))
theorem Out.alloc {S : Nat} {td : Td} {W : World} {A : Option Addr} {n c : Nat} {fe : Int} (h : Out S td W A n c fe) (o : Obj) : Out S td (W.alloc o) A n c fe :=
  h.imp id (fun h => ⟨h.1, h.2.1, h.2.2.keep ((Below.refl _ W).alloc (Nat.le_refl _) o)⟩)
theorem Out.two {S : Nat} {td : Td} {W : World} {A : Option Addr} {n c q : Nat} {fe : Int} {c0 c1 : Value} (h : Out S td W A n c fe) (b : Blk W q 34 #[c0, c1]) (u v : Value) : Out S td ((W.setCell ⟨q, 0, none⟩ u).setCell ⟨q, 1, none⟩ v) A n c fe :=
  h.imp id (fun h => ⟨h.1, h.2.1, h.2.2.kp (((Kp.refl [q] W).setCell (p := ⟨q, 0, none⟩) (.inl (by simp)) u).setCell (p := ⟨q, 1, none⟩) (.inl (by simp)) v) (fun x hx => by
    simp only [List.mem_singleton] at hx
    subst hx
    exact ⟨_, _, b, by decide⟩)⟩)
@[irreducible] def bnd (k : Nat) : Nat := k * 200000
theorem bnd_le {k : Nat} (h : k ≤ 200000) : bnd k ≤ 100000000000 := by unfold bnd; omega
theorem bnd_mono (k : Nat) : bnd k ≤ bnd (k + 1) := by unfold bnd; omega
theorem stepR_bnd {k : Nat} {td : Td} {t : ByteArray} {x : Rw} (h : TdW td) (hp : TdOk (bnd k) td) (hp1 : bnd k ≤ 100000000000) (ht : t.size ≤ 200000) (hz : (stepR t x td).1 = 0) : TdW (stepR t x td).2 ∧ TdOk (bnd (k + 1)) (stepR t x td).2 := by
  have h2 := stepR_ok h hp hp1 ht hz
  exact ⟨h2.1, h2.2.more (by unfold bnd; omega)⟩
theorem row_step {t : ByteArray} {p i k : Nat} (hp : p ≤ i) (hi : i < t.size) (hno : ∀ x, p ≤ x → x < i → t.get! x ≠ 10) (hc : t.get! i = 10) : rowsK t (t.size - p) p (k + 1) = ⟨k + 1, p, i⟩ :: rowsK t (t.size - (i + 1)) (i + 1) (k + 1 + 1) := by
  have h := nlF_eq hp (Nat.le_of_lt hi) hno (fun _ => hc)
  rw [rowsK_on (by omega), h]
  have hx : nxP t p = i + 1 := by unfold nxP; rw [h, if_pos hi]
  rw [hx]
theorem row_last {t : ByteArray} {p k : Nat} (hp : p < t.size) (hno : ∀ x, p ≤ x → x < t.size → t.get! x ≠ 10) : rowsK t (t.size - p) p (k + 1) = [⟨k + 1, p, t.size⟩] := by
  have h := nlF_eq (Nat.le_of_lt hp) (Nat.le_refl _) hno (fun h => absurd h (by omega))
  rw [rowsK_on hp, h]
  have hx : nxP t p = t.size := by unfold nxP; rw [h, if_neg (by omega)]
  rw [hx, rowsK_end]
set_option maxHeartbeats 64000000 in
theorem rparse_any (t : ByteArray) (w : World) : Calls Tryd.prog 17 #[.string t] w fun e w' => ParseR (parseE t) (parseS t) w e w' := by
  by_cases hbig : 200000 < t.size
  · have hE : parseE t = (2, 0) := by unfold parseE; rw [if_pos hbig]
    rw [hE]
    have i1 : (200000 : Int) < t.size := by omega
    go_enter Tryd.func17, Tryd.ntmps17
    go_wp2_with fail
    have hf : Blk ((w.alloc (.cells #[.slice none 0 0, .slice none 0 0, .slice none 0 0, .slice none 0 0, .slice none 0 0, .int .i64 0] 27)).alloc (.cells #[.int .i64 2, .int .i64 0] 34)) (w.heap.size + 1) 34 #[.int .i64 2, .int .i64 0] := Blk.new_ (by simp)
    have hr : Blk ((w.alloc (.cells #[.slice none 0 0, .slice none 0 0, .slice none 0 0, .slice none 0 0, .slice none 0 0, .int .i64 0] 27)).alloc (.cells #[.int .i64 2, .int .i64 0] 34)) w.heap.size 27 #[.slice none 0 0, .slice none 0 0, .slice none 0 0, .slice none 0 0, .slice none 0 0, .int .i64 0] := (Blk.new _ _ _).alloc _
    refine bodyPost_ret (results_cell2 (a := ⟨w.heap.size, 0, none⟩) (b := ⟨w.heap.size + 1, 0, none⟩) Tryd.results17 (by rfl) (hr.run_load (P := Tryd.prog) Tryd.underlying27 rfl sizeS) (by rfl) (hf.run_load (P := Tryd.prog) Tryd.underlying34 rfl sizeF)) rfl ?_
    exact ⟨((Below.refl _ w).alloc (Nat.le_refl _) _).alloc (by simp) _, Or.inl ⟨by decide, rfl⟩⟩
  · obtain ⟨EE, hEE⟩ : ∃ E, parseE t = E := ⟨_, rfl⟩
    obtain ⟨PP, hPP⟩ : ∃ P, parseS t = P := ⟨_, rfl⟩
    rw [hEE, hPP]
    have ht : t.size ≤ 200000 := by omega
    have HEE : Hid (EE = if (foldL t (rowsT t) td0).1.1 ≠ 0 then (foldL t (rowsT t) td0).1 else (scrE (foldL t (rowsT t) td0).2, 0)) := Lib.hid (by rw [← hEE]; unfold parseE; rw [if_neg hbig])
    have HPP : Hid (PP = psT (foldL t (rowsT t) td0).2) := Lib.hid (by rw [← hPP]; rfl)
    have i1 : ¬ (200000 : Int) < t.size := by omega
    clear hEE hPP hbig
    go_enter Tryd.func17, Tryd.ntmps17
    go_wp2_with fail
    have hr4 : Blk (((w.alloc (.cells #[.slice none 0 0, .slice none 0 0, .slice none 0 0, .slice none 0 0, .slice none 0 0, .int .i64 0] 27)).alloc (.cells #[.int .i64 0, .int .i64 0] 34)).alloc (.cells #[.int .i64 (-1), .int .i64 (-1), .slice none 0 0, .slice none 0 0, .slice none 0 0, .slice none 0 0, .slice none 0 0] 95)) w.heap.size 27 sv0.cs := ((Blk.new w _ _).alloc _).alloc _
    have hf4 : Blk (((w.alloc (.cells #[.slice none 0 0, .slice none 0 0, .slice none 0 0, .slice none 0 0, .slice none 0 0, .int .i64 0] 27)).alloc (.cells #[.int .i64 0, .int .i64 0] 34)).alloc (.cells #[.int .i64 (-1), .int .i64 (-1), .slice none 0 0, .slice none 0 0, .slice none 0 0, .slice none 0 0, .slice none 0 0] 95)) (w.heap.size + 1) 34 #[.int .i64 0, .int .i64 0] := (Blk.new_ (by simp)).alloc _
    have hg4 : Blk (((w.alloc (.cells #[.slice none 0 0, .slice none 0 0, .slice none 0 0, .slice none 0 0, .slice none 0 0, .int .i64 0] 27)).alloc (.cells #[.int .i64 0, .int .i64 0] 34)).alloc (.cells #[.int .i64 (-1), .int .i64 (-1), .slice none 0 0, .slice none 0 0, .slice none 0 0, .slice none 0 0, .slice none 0 0] 95)) (w.heap.size + 1 + 1) 95 #[.int .i64 (-1), .int .i64 (-1), .slice none 0 0, .slice none 0 0, .slice none 0 0, .slice none 0 0, .slice none 0 0] := Blk.new_ (by simp)
    have hB4 : Below w.heap.size w (((w.alloc (.cells #[.slice none 0 0, .slice none 0 0, .slice none 0 0, .slice none 0 0, .slice none 0 0, .int .i64 0] 27)).alloc (.cells #[.int .i64 0, .int .i64 0] 34)).alloc (.cells #[.int .i64 (-1), .int .i64 (-1), .slice none 0 0, .slice none 0 0, .slice none 0 0, .slice none 0 0, .slice none 0 0] 95)) := (((Below.refl _ w).alloc (Nat.le_refl _) _).alloc (by simp) _).alloc (by simp; omega) _
    generalize World.alloc (World.alloc (World.alloc w _) _) _ = w4 at *
    have hT4 := rtd0_new (B := w.heap.size) hg4 (by omega)
    clear hg4
    have H4 := Lib.hid (And.intro hr4 (And.intro hf4 (And.intro hB4 hT4)))
    clear hr4 hf4 hB4 hT4
    go_loopw [5, 6, 7] (fun ln fr ii wr => ∃ (k p i : Nat) (td : Td) (vP vV vC vR vE : Value), i ≤ t.size ∧ p ≤ i ∧ k ≤ p ∧ ln = .int .i64 (k : Int) ∧ fr = .int .i64 (p : Int) ∧ ii = .int .i64 (i : Int) ∧ (∀ x, p ≤ x → x < i → t.get! x ≠ 10) ∧ foldL t (rowsT t) td0 = foldL t (rowsK t (t.size - p) p (k + 1)) td ∧ TdW td ∧ TdOk (bnd k) td ∧ RTdH w.heap.size (w.heap.size + 1 + 1) td vP vV vC vR vE wr ∧ Blk wr w.heap.size 27 sv0.cs ∧ Blk wr (w.heap.size + 1) 34 #[.int .i64 0, .int .i64 0] ∧ Below w.heap.size w wr) (fun _ _ ii _ => t.size - (intOf ii).toNat)
    case atStart => exact ⟨0, 0, 0, td0, _, _, _, _, _, Nat.zero_le _, Nat.le_refl _, Nat.le_refl _, rfl, rfl, rfl, fun x _ h => absurd h (by omega), by rw [Nat.sub_zero]; rfl, tdW0, tdOk0 _, H4.out.2.2.2, H4.out.1, H4.out.2.1, H4.out.2.2.1⟩
    case round =>
      obtain ⟨k, p, i, td, vP, vV, vC, vR, vE, hi, hpi, hkp, rfl, rfl, rfl, hno, hfold, hW, hO, hT, hR, hF, hB⟩ := hrel
      clear H4
      have HNO := Lib.hid hno
      have HFO := Lib.hid hfold
      have HWO := Lib.hid (And.intro hW hO)
      have HTR := Lib.hid (And.intro hT (And.intro hR (And.intro hF hB)))
      have hkO : bnd k ≤ 100000000000 := bnd_le (by omega)
      by_cases hlt : i < t.size
      · by_cases hc : t.get! i = 10
        · have e0 : ((t[i].toNat : Int) != 10) = false := by
            rw [getB t i hlt] at hc; rw [hc]; rfl
          have hrow := row_step hpi hlt hno hc (k := k)
          have hst : stepR t ⟨k + 1, p, i⟩ td = take1 (lineW (t.extract p i)) td := by unfold stepR; rw [if_pos hlt]
          have hone : foldL t (rowsT t) td0 = if (take1 (lineW (t.extract p i)) td).1 = 0 then foldL t (rowsK t (t.size - (i + 1)) (i + 1) (k + 1 + 1)) (take1 (lineW (t.extract p i)) td).2 else (((take1 (lineW (t.extract p i)) td).1, ((k + 1 : Nat) : Int)), td) := by
            rw [hfold, hrow, foldL_cons, hst]
          have hok := fun hz => stepR_bnd (t := t) (x := ⟨k + 1, p, i⟩) hW hO hkO ht (by rw [hst]; exact hz)
          rw [hst] at hok
          have hxs : (t.extract p i).size ≤ 200000 := by rw [ByteArray.size_extract]; omega
          have hWd := fun W => rwords_any (t.extract p i) (by omega) W
          have hll := lineW_len (t.extract p i)
          obtain ⟨LW, hLW⟩ : ∃ L, lineW (t.extract p i) = L := ⟨_, rfl⟩
          rw [hLW] at hWd hone hok hll
          have HONE := Lib.hid hone
          have HOK := Lib.hid hok
          have HLL : Hid (LW.length ≤ 200000 ∧ ∀ x ∈ LW, x.size ≤ 200000) := Lib.hid ⟨by omega, fun x hx => by have := (hll.2 x hx).2; omega⟩
          clear hno hfold hW hO hT hR hF hB hc hrow hst hone hok hxs hll hLW HFO
          go_wp2_with fail
          refine (hWd _).mono ?_
          rintro e w2 ⟨A, c, rfl, hc, hcm, HS, _, hA0, _, b2⟩
          have B2 := HTR.out.2.2.2.trans (b2.mono HTR.out.2.2.2.size)
          have T2 := HTR.out.1.below b2
          have R2 := HTR.out.2.1.below b2 HTR.out.2.1.lt
          have F2 := HTR.out.2.2.1.below b2 HTR.out.2.2.1.lt
          cases LW with
          | nil =>
            have FIN := Lib.hid (show ∃ (k' p' i' : Nat) (td : Td) (vP vV vC vR vE : Value), i' ≤ t.size ∧ p' ≤ i' ∧ k' ≤ p' ∧ Value.int .i64 ((k : Int) + 1) = .int .i64 (k' : Int) ∧ Value.int .i64 ((i : Int) + 1) = .int .i64 (p' : Int) ∧ Value.int .i64 ((i : Int) + 1) = .int .i64 (i' : Int) ∧ (∀ x, p' ≤ x → x < i' → t.get! x ≠ 10) ∧ foldL t (rowsT t) td0 = foldL t (rowsK t (t.size - p') p' (k' + 1)) td ∧ TdW td ∧ TdOk (bnd k') td ∧ RTdH w.heap.size (w.heap.size + 1 + 1) td vP vV vC vR vE w2 ∧ Blk w2 w.heap.size 27 sv0.cs ∧ Blk w2 (w.heap.size + 1) 34 #[.int .i64 0, .int .i64 0] ∧ Below w.heap.size w w2 from
              ⟨k + 1, i + 1, i + 1, td, _, _, _, _, _, by omega, Nat.le_refl _, by omega, by norm_cast, by norm_cast, by norm_cast, fun x h1 h2 => absurd h2 (by omega), by rw [HONE.out]; rfl, HWO.out.1, HWO.out.2.more (bnd_mono k), T2, R2, F2, B2⟩)
            have h0 : ([] : List ByteArray).length = 0 := rfl
            rw [h0] at hc ⊢
            clear T2 R2 F2 B2 HS hA0 b2 h0
            go_wp2_with fail
            go_roundw
            case rel => exact FIN.out
            case measure => simp [intOf]; omega
          | cons f rest =>
            have hTO : TdOk 100000000000 td := HWO.out.2.more hkO
            have hs1 : ∀ x ∈ rest, x.size ≤ 1000000 := fun x hx => by
              have h1 := HLL.out.2 x (List.mem_cons_of_mem _ hx)
              omega
            have hs2 : rest.length ≤ 1000000 := by
              have h1 := HLL.out.1
              rw [List.length_cons] at h1
              omega
            have HC := rone_any T2 HWO.out.1 hTO B2.size f rest A c hc HS hs1 hs2
            have hln : (f :: rest).length = rest.length + 1 := rfl
            rw [hln] at hc ⊢
            have e5 : ((((rest.length + 1 : Nat)) : Int) == 0) = false := by rw [beq_eq_false_iff_ne]; omega
            obtain ⟨n, hn⟩ : ∃ n, rest.length + 1 = n := ⟨_, rfl⟩
            rw [hn] at hc HC e5 ⊢
            obtain ⟨RV, hRV⟩ : ∃ RV, take1 (f :: rest) td = RV := ⟨_, rfl⟩
            rw [hRV] at HC HONE HOK
            obtain ⟨rv, rtd⟩ := RV
            dsimp only at HONE HOK
            have HH := Lib.hid (And.intro T2 (And.intro R2 (And.intro F2 B2)))
            clear T2 R2 F2 B2 HS hA0 b2 hTO hln hn hRV HLL hs1 hs2
            go_wp2_with fail
            refine HC.mono ?_
            rintro e w3 ⟨rfl, kk, hfin⟩
            have R3 := HH.out.2.1.kp kk (HH.out.1.off HH.out.2.1 (by decide) (by decide) (by decide) (by decide))
            have F3 := HH.out.2.2.1.kp kk (HH.out.1.off HH.out.2.2.1 (by decide) (by decide) (by decide) (by decide))
            have B3 := HH.out.2.2.2.trans (kk.below HH.out.2.2.2.size HH.out.1.ge)
            dsimp only at hfin
            by_cases hz : rv = 0
            · subst hz
              obtain ⟨a1, a2, a3, a4, a5, a6, a7⟩ := hfin rfl
              have hok := HOK.out rfl
              have FIN := Lib.hid (show ∃ (k' p' i' : Nat) (td : Td) (vP vV vC vR vE : Value), i' ≤ t.size ∧ p' ≤ i' ∧ k' ≤ p' ∧ Value.int .i64 ((k : Int) + 1) = .int .i64 (k' : Int) ∧ Value.int .i64 ((i : Int) + 1) = .int .i64 (p' : Int) ∧ Value.int .i64 ((i : Int) + 1) = .int .i64 (i' : Int) ∧ (∀ x, p' ≤ x → x < i' → t.get! x ≠ 10) ∧ foldL t (rowsT t) td0 = foldL t (rowsK t (t.size - p') p' (k' + 1)) td ∧ TdW td ∧ TdOk (bnd k') td ∧ RTdH w.heap.size (w.heap.size + 1 + 1) td vP vV vC vR vE w3 ∧ Blk w3 w.heap.size 27 sv0.cs ∧ Blk w3 (w.heap.size + 1) 34 #[.int .i64 0, .int .i64 0] ∧ Below w.heap.size w w3 from
                ⟨k + 1, i + 1, i + 1, rtd, a1, a2, a3, a4, a5, by omega, Nat.le_refl _, by omega, by norm_cast, by norm_cast, by norm_cast, fun x h1 h2 => absurd h2 (by omega), by rw [HONE.out, if_pos rfl], hok.1, hok.2, a6, R3, F3, B3⟩)
              clear a6 a7 hok hfin kk R3 F3 B3 HC
              go_wp2_with fail
              go_roundw
              case rel => exact FIN.out
              case measure => simp [intOf]; omega
            · have e1 : (rv != 0) = true := by rw [bne_iff_ne]; exact hz
              have HQ : Hid (rv ≠ 0 ∧ EE = (rv, (((k + 1 : Nat)) : Int))) := Lib.hid ⟨hz, by rw [HEE.out, HONE.out, if_neg hz, if_pos hz]⟩
              have HF8 := Lib.hid (fin8 R3 F3 B3)
              have d0 : w3.cell? ⟨w.heap.size, 0, none⟩ = some (.slice none 0 0) := R3.cell 0
              have y0 : w3.frozen? ⟨w.heap.size, 0, none⟩ = false := R3.frozen 0
              have d1 : w3.cell? ⟨w.heap.size, 1, none⟩ = some (.slice none 0 0) := R3.cell 1
              have y1 : w3.frozen? ⟨w.heap.size, 1, none⟩ = false := R3.frozen 1
              have d2 : w3.cell? ⟨w.heap.size, 2, none⟩ = some (.slice none 0 0) := R3.cell 2
              have y2 : w3.frozen? ⟨w.heap.size, 2, none⟩ = false := R3.frozen 2
              have d3 : w3.cell? ⟨w.heap.size, 3, none⟩ = some (.slice none 0 0) := R3.cell 3
              have y3 : w3.frozen? ⟨w.heap.size, 3, none⟩ = false := R3.frozen 3
              have d4 : w3.cell? ⟨w.heap.size, 4, none⟩ = some (.slice none 0 0) := R3.cell 4
              have y4 : w3.frozen? ⟨w.heap.size, 4, none⟩ = false := R3.frozen 4
              have d5 : w3.cell? ⟨w.heap.size, 5, none⟩ = some (.int .i64 0) := R3.cell 5
              have y5 : w3.frozen? ⟨w.heap.size, 5, none⟩ = false := R3.frozen 5
              have f0 : w3.cell? ⟨w.heap.size + 1, 0, none⟩ = some (.int .i64 0) := F3.cell 0
              have g0 : w3.frozen? ⟨w.heap.size + 1, 0, none⟩ = false := F3.frozen 0
              have f1 : w3.cell? ⟨w.heap.size + 1, 1, none⟩ = some (.int .i64 0) := F3.cell 1
              have g1 : w3.frozen? ⟨w.heap.size + 1, 1, none⟩ = false := F3.frozen 1
              clear hfin kk R3 F3 B3 HC hz
              go_wp2_with fail
              (try simp only [Exit.inBlock, Exit.then])
              have hz := HF8.out (.slice none 0 0) (.slice none 0 0) (.slice none 0 0) (.slice none 0 0) (.slice none 0 0) (.int .i64 0) (.int .i64 rv) (.int .i64 (((k + 1 : Nat)) : Int))
              refine bodyPost_ret (results_cell2 (a := ⟨w.heap.size, 0, none⟩) (b := ⟨w.heap.size + 1, 0, none⟩) Tryd.results17 (by rfl) (hz.2.1.run_load (P := Tryd.prog) Tryd.underlying27 rfl sizeS) (by rfl) (hz.2.2.run_load (P := Tryd.prog) Tryd.underlying34 rfl sizeF)) rfl ?_
              exact ⟨hz.1, Or.inl ⟨by rw [HQ.out.2]; exact HQ.out.1, by rw [HQ.out.2]; rfl⟩⟩
        · have e0 : ((t[i].toNat : Int) != 10) = true := by
            rw [getB t i hlt] at hc
            rw [bne_iff_ne]; intro e; exact hc (UInt8.toNat_inj.1 (by simpa using (by exact_mod_cast e : t[i].toNat = 10)))
          have FIN := Lib.hid (show ∃ (k' p' i' : Nat) (td : Td) (vP vV vC vR vE : Value), i' ≤ t.size ∧ p' ≤ i' ∧ k' ≤ p' ∧ Value.int .i64 (k : Int) = .int .i64 (k' : Int) ∧ Value.int .i64 (p : Int) = .int .i64 (p' : Int) ∧ Value.int .i64 ((i : Int) + 1) = .int .i64 (i' : Int) ∧ (∀ x, p' ≤ x → x < i' → t.get! x ≠ 10) ∧ foldL t (rowsT t) td0 = foldL t (rowsK t (t.size - p') p' (k' + 1)) td ∧ TdW td ∧ TdOk (bnd k') td ∧ RTdH w.heap.size (w.heap.size + 1 + 1) td vP vV vC vR vE wr ∧ Blk wr w.heap.size 27 sv0.cs ∧ Blk wr (w.heap.size + 1) 34 #[.int .i64 0, .int .i64 0] ∧ Below w.heap.size w wr from
            ⟨k, p, i + 1, td, vP, vV, vC, vR, vE, by omega, by omega, hkp, rfl, rfl, by norm_cast, fun x h1 h2 => (Nat.lt_succ_iff_lt_or_eq.1 h2).elim (hno x h1) (fun e => by subst e; exact hc), hfold, hW, hO, hT, hR, hF, hB⟩)
          clear hno hfold hW hO hT hR hF hB hc HNO HFO HWO HTR
          go_wp2_with fail
          go_roundw
          case rel => exact FIN.out
          case measure => simp [intOf]; omega
      · obtain rfl : i = t.size := by omega
        by_cases hp : p < t.size
        · have hrow := row_last hp hno (k := k)
          have hst : stepR t ⟨k + 1, p, t.size⟩ td = (3, td) := by unfold stepR; rw [if_neg (by simp)]
          have HQ : Hid (EE = (3, (((k + 1 : Nat)) : Int))) := Lib.hid (by
            rw [HEE.out, hfold, hrow, foldL_cons, hst]; simp)
          have HF8 := Lib.hid (fin8 hR hF hB)
          have d0 : wr.cell? ⟨w.heap.size, 0, none⟩ = some (.slice none 0 0) := hR.cell 0
          have y0 : wr.frozen? ⟨w.heap.size, 0, none⟩ = false := hR.frozen 0
          have d1 : wr.cell? ⟨w.heap.size, 1, none⟩ = some (.slice none 0 0) := hR.cell 1
          have y1 : wr.frozen? ⟨w.heap.size, 1, none⟩ = false := hR.frozen 1
          have d2 : wr.cell? ⟨w.heap.size, 2, none⟩ = some (.slice none 0 0) := hR.cell 2
          have y2 : wr.frozen? ⟨w.heap.size, 2, none⟩ = false := hR.frozen 2
          have d3 : wr.cell? ⟨w.heap.size, 3, none⟩ = some (.slice none 0 0) := hR.cell 3
          have y3 : wr.frozen? ⟨w.heap.size, 3, none⟩ = false := hR.frozen 3
          have d4 : wr.cell? ⟨w.heap.size, 4, none⟩ = some (.slice none 0 0) := hR.cell 4
          have y4 : wr.frozen? ⟨w.heap.size, 4, none⟩ = false := hR.frozen 4
          have d5 : wr.cell? ⟨w.heap.size, 5, none⟩ = some (.int .i64 0) := hR.cell 5
          have y5 : wr.frozen? ⟨w.heap.size, 5, none⟩ = false := hR.frozen 5
          have f0 : wr.cell? ⟨w.heap.size + 1, 0, none⟩ = some (.int .i64 0) := hF.cell 0
          have g0 : wr.frozen? ⟨w.heap.size + 1, 0, none⟩ = false := hF.frozen 0
          have f1 : wr.cell? ⟨w.heap.size + 1, 1, none⟩ = some (.int .i64 0) := hF.cell 1
          have g1 : wr.frozen? ⟨w.heap.size + 1, 1, none⟩ = false := hF.frozen 1
          clear hno hfold hW hO hT hR hF hB hrow hst HNO HFO HWO HTR
          go_wp2_with fail
          (try simp only [Exit.inBlock, Exit.then])
          have hz := HF8.out (.slice none 0 0) (.slice none 0 0) (.slice none 0 0) (.slice none 0 0) (.slice none 0 0) (.int .i64 0) (.int .i64 3) (.int .i64 (((k + 1 : Nat)) : Int))
          refine bodyPost_ret (results_cell2 (a := ⟨w.heap.size, 0, none⟩) (b := ⟨w.heap.size + 1, 0, none⟩) Tryd.results17 (by rfl) (hz.2.1.run_load (P := Tryd.prog) Tryd.underlying27 rfl sizeS) (by rfl) (hz.2.2.run_load (P := Tryd.prog) Tryd.underlying34 rfl sizeF)) rfl ?_
          exact ⟨hz.1, Or.inl ⟨by rw [HQ.out]; simp, by rw [HQ.out]; rfl⟩⟩
        · obtain rfl : p = t.size := by omega
          have hfold2 : foldL t (rowsT t) td0 = ((0, 0), td) := by rw [hfold, rowsK_end]; rfl
          have HQ : Hid (EE = (scrE td, 0)) := Lib.hid (by rw [HEE.out, hfold2]; simp)
          have HQP : Hid (PP = psT td) := Lib.hid (by rw [HPP.out, hfold2])
          clear hno hfold hfold2 HNO HFO HEE HPP
          have HOO : Hid (TdOk 100000000000 td) := Lib.hid (HWO.out.2.more hkO)
          have q0 : wr.cell? ⟨w.heap.size + 1 + 1, 0, none⟩ = some (.int .i64 (td.pg.getD (-1))) := HTR.out.1.blk.cell 0
          have q1 : wr.cell? ⟨w.heap.size + 1 + 1, 1, none⟩ = some (.int .i64 (td.bg.getD (-1))) := HTR.out.1.blk.cell 1
          by_cases hno : td.pg = none ∨ td.bg = none
          · have HE5 : Hid (EE = (5, 0)) := Lib.hid (by rw [HQ.out, scrE_no hno])
            have HF8 := Lib.hid (fin8 HTR.out.2.1 HTR.out.2.2.1 HTR.out.2.2.2)
            have d0 : wr.cell? ⟨w.heap.size, 0, none⟩ = some (.slice none 0 0) := HTR.out.2.1.cell 0
            have y0 : wr.frozen? ⟨w.heap.size, 0, none⟩ = false := HTR.out.2.1.frozen 0
            have d1 : wr.cell? ⟨w.heap.size, 1, none⟩ = some (.slice none 0 0) := HTR.out.2.1.cell 1
            have y1 : wr.frozen? ⟨w.heap.size, 1, none⟩ = false := HTR.out.2.1.frozen 1
            have d2 : wr.cell? ⟨w.heap.size, 2, none⟩ = some (.slice none 0 0) := HTR.out.2.1.cell 2
            have y2 : wr.frozen? ⟨w.heap.size, 2, none⟩ = false := HTR.out.2.1.frozen 2
            have d3 : wr.cell? ⟨w.heap.size, 3, none⟩ = some (.slice none 0 0) := HTR.out.2.1.cell 3
            have y3 : wr.frozen? ⟨w.heap.size, 3, none⟩ = false := HTR.out.2.1.frozen 3
            have d4 : wr.cell? ⟨w.heap.size, 4, none⟩ = some (.slice none 0 0) := HTR.out.2.1.cell 4
            have y4 : wr.frozen? ⟨w.heap.size, 4, none⟩ = false := HTR.out.2.1.frozen 4
            have d5 : wr.cell? ⟨w.heap.size, 5, none⟩ = some (.int .i64 0) := HTR.out.2.1.cell 5
            have y5 : wr.frozen? ⟨w.heap.size, 5, none⟩ = false := HTR.out.2.1.frozen 5
            have f0 : wr.cell? ⟨w.heap.size + 1, 0, none⟩ = some (.int .i64 0) := HTR.out.2.2.1.cell 0
            have g0 : wr.frozen? ⟨w.heap.size + 1, 0, none⟩ = false := HTR.out.2.2.1.frozen 0
            have f1 : wr.cell? ⟨w.heap.size + 1, 1, none⟩ = some (.int .i64 0) := HTR.out.2.2.1.cell 1
            have g1 : wr.frozen? ⟨w.heap.size + 1, 1, none⟩ = false := HTR.out.2.2.1.frozen 1
            cases hpg : td.pg with
            | none =>
              rw [hpg] at q0
              simp only [Option.getD_none] at q0
              obtain ⟨bv, hbv⟩ : ∃ b, td.bg.getD (-1) = b := ⟨_, rfl⟩
              rw [hbv] at q1
              clear hno hpg hbv
              go_wp2_with fail
              (try simp (config := { zetaDelta := true }) only [Exit.inBlock, Exit.then])
              have hz := HF8.out (.slice none 0 0) (.slice none 0 0) (.slice none 0 0) (.slice none 0 0) (.slice none 0 0) (.int .i64 0) (.int .i64 5) (.int .i64 0)
              refine bodyPost_ret (results_cell2 (a := ⟨w.heap.size, 0, none⟩) (b := ⟨w.heap.size + 1, 0, none⟩) Tryd.results17 (by rfl) (hz.2.1.run_load (P := Tryd.prog) Tryd.underlying27 rfl sizeS) (by rfl) (hz.2.2.run_load (P := Tryd.prog) Tryd.underlying34 rfl sizeF)) rfl ?_
              exact ⟨hz.1, Or.inl ⟨by rw [HE5.out]; simp, by rw [HE5.out]; rfl⟩⟩
            | some pg =>
              have hbg : td.bg = none := by rcases hno with e | e; rw [hpg] at e; cases e; exact e
              rw [hpg] at q0
              rw [hbg] at q1
              simp only [Option.getD_some] at q0
              simp only [Option.getD_none] at q1
              have i2 : ¬ pg < 0 := by have := HWO.out.1.pg pg hpg; omega
              clear hno hpg hbg
              go_wp2_with fail
              (try simp (config := { zetaDelta := true }) only [Exit.inBlock, Exit.then])
              have hz := HF8.out (.slice none 0 0) (.slice none 0 0) (.slice none 0 0) (.slice none 0 0) (.slice none 0 0) (.int .i64 0) (.int .i64 5) (.int .i64 0)
              refine bodyPost_ret (results_cell2 (a := ⟨w.heap.size, 0, none⟩) (b := ⟨w.heap.size + 1, 0, none⟩) Tryd.results17 (by rfl) (hz.2.1.run_load (P := Tryd.prog) Tryd.underlying27 rfl sizeS) (by rfl) (hz.2.2.run_load (P := Tryd.prog) Tryd.underlying34 rfl sizeF)) rfl ?_
              exact ⟨hz.1, Or.inl ⟨by rw [HE5.out]; simp, by rw [HE5.out]; rfl⟩⟩
          · obtain ⟨pg, hpg⟩ : ∃ n, td.pg = some n := by
              cases hh : td.pg with
              | none => exact absurd (Or.inl hh) hno
              | some n => exact ⟨n, rfl⟩
            obtain ⟨bg, hbg⟩ : ∃ n, td.bg = some n := by
              cases hh : td.bg with
              | none => exact absurd (Or.inr hh) hno
              | some n => exact ⟨n, rfl⟩
            have hpgb := HWO.out.1.pg pg hpg
            have hbgb := HWO.out.1.bg bg hbg
            rw [hpg] at q0
            rw [hbg] at q1
            simp only [Option.getD_some] at q0 q1
            have i2 : ¬ pg < 0 := by omega
            have i3 : ¬ bg < 0 := by omega
            obtain ⟨S, hS⟩ : ∃ S : Nat, (S : Int) = pg * 8192 := ⟨(pg * 8192).toNat, by omega⟩
            have q2 : wr.cell? ⟨w.heap.size + 1 + 1, 2, none⟩ = some vP := HTR.out.1.blk.cell 2
            have HPG := Lib.hid (And.intro hpg (And.intro hbg hS))
            have CG : Hid (∀ W, St5 w td vP vV vC vR vE W → W.cell? ⟨w.heap.size + 1 + 1, 0, none⟩ = some (.int .i64 pg)) := Lib.hid (fun W h => by
              have h1 : W.cell? ⟨w.heap.size + 1 + 1, 0, none⟩ = some (.int .i64 (td.pg.getD (-1))) := h.1.blk.cell 0
              rw [HPG.out.1] at h1
              exact h1)
            clear hno hpg hbg hpgb hbgb hS
            go_upto_region 20 with fail
            refine rg_begin (S := fun W => W.cell? ⟨w.heap.size + 1 + 1, 0, none⟩ = some (.int .i64 pg) ∧ W.cell? ⟨w.heap.size + 1 + 1, 2, none⟩ = some vP) 15 #[false, false, false, false, false, false, false, false, false, false, false, false, false, false, false] (by kernel_rfl) (by kernel_rfl) (by kernel_rfl) ?_ (fun hHeld => ?_)
            · exact ⟨q0, q2⟩
            have HD := Lib.hid (St5.drew (⟨HTR.out.1, HTR.out.2.1, HTR.out.2.2.1, HTR.out.2.2.2⟩ : St5 w td vP vV vC vR vE wr))
            clear HTR q0 q1 q2
            generalize World.drew wr = wD at *
            refine rg_take (i := 0) (d := some 75) (l := #[true, false, false, false, false, false, false, false, false, false, false, false, false, false, false]) (fuel := 14) (v := ?_) rfl (by kernel_rfl) (by kernel_rfl) (by kernel_rfl) (by kernel_rfl) (by kernel_rfl) (fun _ _ _ h => h) (by kernel_rfl) ?_ (by assumption) ?_
            rotate_left 1
            · (intro wS hSw; (try dsimp only at hSw); go_simp; try with_reducible rfl)
            try simp only [Act.put, List.setIfInBounds_toArray, List.set_cons_zero, List.set_cons_succ]
            refine rg_take (i := 1) (d := some 76) (l := #[true, true, false, false, false, false, false, false, false, false, false, false, false, false, false]) (fuel := 13) (v := ?_) rfl (by kernel_rfl) (by kernel_rfl) (by kernel_rfl) (by kernel_rfl) (by kernel_rfl) (fun _ _ _ h => h) (by kernel_rfl) ?_ (by assumption) ?_
            rotate_left 1
            · (intro wS hSw; (try dsimp only at hSw); go_simp; try with_reducible rfl)
            try simp only [Act.put, List.setIfInBounds_toArray, List.set_cons_zero, List.set_cons_succ]
            refine rg_take (i := 2) (d := some 77) (l := #[true, true, true, false, false, false, false, false, false, false, false, false, false, false, false]) (fuel := 12) (v := ?_) rfl (by kernel_rfl) (by kernel_rfl) (by kernel_rfl) (by kernel_rfl) (by kernel_rfl) (fun _ _ _ h => h) (by kernel_rfl) ?_ (by assumption) ?_
            rotate_left 1
            · (intro wS hSw; (try dsimp only at hSw); go_simp; try with_reducible rfl)
            try simp only [Act.put, List.setIfInBounds_toArray, List.set_cons_zero, List.set_cons_succ]
            refine rg_take (i := 3) (d := some 78) (l := #[true, true, true, true, false, false, false, false, false, false, false, false, false, false, false]) (fuel := 11) (v := ?_) rfl (by kernel_rfl) (by kernel_rfl) (by kernel_rfl) (by kernel_rfl) (by kernel_rfl) (fun _ _ _ h => h) (by kernel_rfl) ?_ (by assumption) ?_
            rotate_left 1
            · (intro wS hSw; (try dsimp only at hSw); go_simp; try with_reducible rfl)
            try simp only [Act.put, List.setIfInBounds_toArray, List.set_cons_zero, List.set_cons_succ]
            refine rg_take (i := 4) (d := some 79) (l := #[true, true, true, true, true, false, false, false, false, false, false, false, false, false, false]) (fuel := 10) (v := ?_) rfl (by kernel_rfl) (by kernel_rfl) (by kernel_rfl) (by kernel_rfl) (by kernel_rfl) (fun _ _ _ h => h) (by kernel_rfl) ?_ (by assumption) ?_
            rotate_left 1
            · (intro wS hSw; (try dsimp only at hSw); go_simp; try with_reducible rfl)
            try simp only [Act.put, List.setIfInBounds_toArray, List.set_cons_zero, List.set_cons_succ]
            refine rg_take (i := 5) (d := some 80) (l := #[true, true, true, true, true, true, false, false, false, false, false, false, false, false, false]) (fuel := 9) (v := ?_) rfl (by kernel_rfl) (by kernel_rfl) (by kernel_rfl) (by kernel_rfl) (by kernel_rfl) (fun _ _ _ h => h) (by kernel_rfl) ?_ (by assumption) ?_
            rotate_left 1
            · (intro wS hSw; (try dsimp only at hSw); go_simp; try with_reducible rfl)
            try simp only [Act.put, List.setIfInBounds_toArray, List.set_cons_zero, List.set_cons_succ]
            refine rg_take (i := 6) (d := some 81) (l := #[true, true, true, true, true, true, true, false, false, false, false, false, false, false, false]) (fuel := 8) (v := ?_) rfl (by kernel_rfl) (by kernel_rfl) (by kernel_rfl) (by kernel_rfl) (by kernel_rfl) (fun _ _ _ h => h) (by kernel_rfl) ?_ (by assumption) ?_
            rotate_left 1
            · (intro wS hSw; (try dsimp only at hSw); go_simp; try with_reducible rfl)
            try simp only [Act.put, List.setIfInBounds_toArray, List.set_cons_zero, List.set_cons_succ]
            refine rg_take (i := 7) (d := some 82) (l := #[true, true, true, true, true, true, true, true, false, false, false, false, false, false, false]) (fuel := 7) (v := ?_) rfl (by kernel_rfl) (by kernel_rfl) (by kernel_rfl) (by kernel_rfl) (by kernel_rfl) (fun _ _ _ h => h) (by kernel_rfl) ?_ (by assumption) ?_
            rotate_left 1
            · (intro wS hSw; (try dsimp only at hSw); go_simp; try with_reducible rfl)
            try simp only [Act.put, List.setIfInBounds_toArray, List.set_cons_zero, List.set_cons_succ]
            refine rg_of (rs := [8, 12]) (fuel := 6) (by kernel_rfl) rfl ?_
            refine rg_step (i := 8) (l := #[true, true, true, true, true, true, true, true, true, false, false, false, false, false, false]) rfl (by kernel_rfl) (by kernel_rfl) ?_ ?_
            · intro K hK
              go_simp
              refine (rimg_any HD.out.1 HWO.out.1 pg S HPG.out.1 HPG.out.2.2).mono ?_
              rintro e w2 ⟨A1, n1, c1, fe, fj, rfl, b2, hout⟩
              have H2 := Lib.hid (HD.out.below b2)
              have HOUT := Lib.hid (show Out S td w2 A1 n1 c1 fe from hout)
              first | (refine hK.out _ _ ?_ (fun hHeld => ?_)) | (go_wp2_with fail; refine hK.out _ _ ?_ (fun hHeld => ?_))
              · (try dsimp only); exact ⟨CG.out _ H2.out, H2.out.1.blk.cell 2⟩
              clear hK K
              try simp only [Act.put, List.setIfInBounds_toArray, List.set_cons_zero, List.set_cons_succ]
              clear b2 hout
              refine rg_take (i := 9) (d := some 74) (l := #[true, true, true, true, true, true, true, true, true, true, false, false, false, false, false]) (fuel := 5) (v := ?_) rfl (by kernel_rfl) (by kernel_rfl) (by kernel_rfl) (by kernel_rfl) (by kernel_rfl) (fun _ _ _ h => h) (by kernel_rfl) ?_ (by assumption) ?_
              rotate_left 1
              · (intro wS hSw; (try dsimp only at hSw); go_simp; try with_reducible rfl)
              try simp only [Act.put, List.setIfInBounds_toArray, List.set_cons_zero, List.set_cons_succ]
              refine rg_take (i := 10) (d := some 84) (l := #[true, true, true, true, true, true, true, true, true, true, true, false, false, false, false]) (fuel := 4) (v := ?_) rfl (by kernel_rfl) (by kernel_rfl) (by kernel_rfl) (by kernel_rfl) (by kernel_rfl) (fun _ _ _ h => h) (by kernel_rfl) ?_ (by assumption) ?_
              rotate_left 1
              · (intro wS hSw; (try dsimp only at hSw); go_simp; try with_reducible rfl)
              try simp only [Act.put, List.setIfInBounds_toArray, List.set_cons_zero, List.set_cons_succ]
              refine rg_take (i := 11) (d := some 85) (l := #[true, true, true, true, true, true, true, true, true, true, true, true, false, false, false]) (fuel := 3) (v := ?_) rfl (by kernel_rfl) (by kernel_rfl) (by kernel_rfl) (by kernel_rfl) (by kernel_rfl) (fun _ _ _ h => h) (by kernel_rfl) ?_ (by assumption) ?_
              rotate_left 1
              · (intro wS hSw; (try dsimp only at hSw); go_simp; try with_reducible rfl)
              try simp only [Act.put, List.setIfInBounds_toArray, List.set_cons_zero, List.set_cons_succ]
              refine rg_next (i := 12) (l := #[true, true, true, true, true, true, true, true, true, true, true, true, true, false, false]) (fuel := 2) (by kernel_rfl) rfl (by kernel_rfl) (by kernel_rfl) (fun K hK => ?_)
              go_simp
              skip
              first | (refine hK.out _ _ ?_ (fun hHeld => ?_)) | (go_wp2_with fail; refine hK.out _ _ ?_ (fun hHeld => ?_))
              · (try dsimp only); exact ⟨CG.out _ (H2.out.alloc _), (H2.out.alloc _).1.blk.cell 2⟩
              clear hK K
              try simp only [Act.put, List.setIfInBounds_toArray, List.set_cons_zero, List.set_cons_succ]
              refine rg_take (i := 13) (d := some 10) (l := #[true, true, true, true, true, true, true, true, true, true, true, true, true, true, false]) (fuel := 1) (v := ?_) rfl (by kernel_rfl) (by kernel_rfl) (by kernel_rfl) (by kernel_rfl) (by kernel_rfl) (fun _ _ _ h => h) (by kernel_rfl) ?_ (by assumption) ?_
              rotate_left 1
              · (intro wS hSw; (try dsimp only at hSw); go_simp; try with_reducible rfl)
              try simp only [Act.put, List.setIfInBounds_toArray, List.set_cons_zero, List.set_cons_succ]
              have H3 := Lib.hid (H2.out.alloc (.cells #[.int .i64 0, .int .i64 0] 34))
              have O3 := Lib.hid (HOUT.out.alloc (.cells #[.int .i64 0, .int .i64 0] 34))
              have X3 : Hid (Blk (w2.alloc (.cells #[.int .i64 0, .int .i64 0] 34)) w2.heap.size 34 #[.int .i64 0, .int .i64 0]) := Lib.hid (Blk.new _ _ _)
              have HFB : Hid (w.heap.size + 1 < w2.heap.size) := Lib.hid H2.out.2.2.1.lt
              generalize hw3 : World.alloc w2 _ = w3
              have hw4 : w2.alloc (.cells #[.int .i64 0, .int .i64 0] 34) = w3 := hw3
              rw [hw4] at H3 O3 X3
              obtain ⟨fb, hfb⟩ : ∃ x, w2.heap.size = x := ⟨_, rfl⟩
              rw [hfb] at X3 HFB
              rw [hfb]
              clear hw3 hw4 hfb H2 HOUT
              have hn3 : w.heap.size + 1 < fb := HFB.out
              have a0 : w3.cell? ⟨fb, 0, none⟩ = some (.int .i64 0) := X3.out.cell 0
              have a1 : w3.cell? ⟨fb, 1, none⟩ = some (.int .i64 0) := X3.out.cell 1
              have b0 : w3.frozen? ⟨fb, 0, none⟩ = false := X3.out.frozen 0
              have b1 : w3.frozen? ⟨fb, 1, none⟩ = false := X3.out.frozen 1
              have H5 := Lib.hid (H3.out.two X3.out hn3 (.int .i64 fe) (.int .i64 fj))
              have O5 := Lib.hid (O3.out.two X3.out (.int .i64 fe) (.int .i64 fj))
              have X5 : Hid (Blk ((w3.setCell ⟨fb, 0, none⟩ (.int .i64 fe)).setCell ⟨fb, 1, none⟩ (.int .i64 fj)) fb 34 #[.int .i64 fe, .int .i64 fj]) := Lib.hid ((X3.out.set_ 0 _).set_ 1 _)
              refine rg_next (i := 14) (l := #[true, true, true, true, true, true, true, true, true, true, true, true, true, true, true]) (fuel := 0) (by kernel_rfl) rfl (by kernel_rfl) (by kernel_rfl) (fun K hK => ?_)
              go_simp
              skip
              first | (refine hK.out _ _ ?_ (fun hHeld => ?_)) | (go_wp2_with fail; refine hK.out _ _ ?_ (fun hHeld => ?_))
              · (try dsimp only); exact ⟨CG.out _ H5.out, H5.out.1.blk.cell 2⟩
              clear hK K
              try simp only [Act.put, List.setIfInBounds_toArray, List.set_cons_zero, List.set_cons_succ]
              obtain ⟨w5, hw5⟩ : ∃ x, ((w3.setCell ⟨fb, 0, none⟩ (.int .i64 fe)).setCell ⟨fb, 1, none⟩ (.int .i64 fj)) = x := ⟨_, rfl⟩
              rw [hw5] at H5 O5 X5 ⊢
              clear hw5 a0 a1 b0 b1 H3 O3 X3 hn3
              refine wpAnyH_done (by kernel_rfl) ?_ _
              rcases O5.out with ⟨rfl, hg⟩ | ⟨rfl, hg, hM⟩
              · have HE1 : Hid (EE = (1, 0)) := Lib.hid (by rw [HQ.out, scrE_bad HPG.out.1 HPG.out.2.1 HPG.out.2.2 hg])
                have HF8 := Lib.hid (fin8 H5.out.2.1 H5.out.2.2.1 H5.out.2.2.2)
                have d0 : w5.cell? ⟨w.heap.size, 0, none⟩ = some (.slice none 0 0) := H5.out.2.1.cell 0
                have y0 : w5.frozen? ⟨w.heap.size, 0, none⟩ = false := H5.out.2.1.frozen 0
                have d1 : w5.cell? ⟨w.heap.size, 1, none⟩ = some (.slice none 0 0) := H5.out.2.1.cell 1
                have y1 : w5.frozen? ⟨w.heap.size, 1, none⟩ = false := H5.out.2.1.frozen 1
                have d2 : w5.cell? ⟨w.heap.size, 2, none⟩ = some (.slice none 0 0) := H5.out.2.1.cell 2
                have y2 : w5.frozen? ⟨w.heap.size, 2, none⟩ = false := H5.out.2.1.frozen 2
                have d3 : w5.cell? ⟨w.heap.size, 3, none⟩ = some (.slice none 0 0) := H5.out.2.1.cell 3
                have y3 : w5.frozen? ⟨w.heap.size, 3, none⟩ = false := H5.out.2.1.frozen 3
                have d4 : w5.cell? ⟨w.heap.size, 4, none⟩ = some (.slice none 0 0) := H5.out.2.1.cell 4
                have y4 : w5.frozen? ⟨w.heap.size, 4, none⟩ = false := H5.out.2.1.frozen 4
                have d5 : w5.cell? ⟨w.heap.size, 5, none⟩ = some (.int .i64 0) := H5.out.2.1.cell 5
                have y5 : w5.frozen? ⟨w.heap.size, 5, none⟩ = false := H5.out.2.1.frozen 5
                have f0 : w5.cell? ⟨w.heap.size + 1, 0, none⟩ = some (.int .i64 0) := H5.out.2.2.1.cell 0
                have g0 : w5.frozen? ⟨w.heap.size + 1, 0, none⟩ = false := H5.out.2.2.1.frozen 0
                have f1 : w5.cell? ⟨w.heap.size + 1, 1, none⟩ = some (.int .i64 0) := H5.out.2.2.1.cell 1
                have g1 : w5.frozen? ⟨w.heap.size + 1, 1, none⟩ = false := H5.out.2.2.1.frozen 1
                have m0 : w5.cell? ⟨fb, 0, none⟩ = some (.int .i64 1) := X5.out.cell 0
                clear hg
                go_wp2_with fail
                (try simp (config := { zetaDelta := true }) only [Exit.inBlock, Exit.then])
                have hz := HF8.out (.slice none 0 0) (.slice none 0 0) (.slice none 0 0) (.slice none 0 0) (.slice none 0 0) (.int .i64 0) (.int .i64 1) (.int .i64 0)
                refine bodyPost_ret (results_cell2 (a := ⟨w.heap.size, 0, none⟩) (b := ⟨w.heap.size + 1, 0, none⟩) Tryd.results17 (by rfl) (hz.2.1.run_load (P := Tryd.prog) Tryd.underlying27 rfl sizeS) (by rfl) (hz.2.2.run_load (P := Tryd.prog) Tryd.underlying34 rfl sizeF)) rfl ?_
                exact ⟨hz.1, Or.inl ⟨by rw [HE1.out]; simp, by rw [HE1.out]; rfl⟩⟩
              · obtain ⟨AV, nV, kV, AC, nC, kC, AR, nR, kR, AE, nE, kE, rfl, rfl, rfl, rfl, hSC, hSO, hER, hSE⟩ := scr_of H5.out.1 HWO.out.1 HOO.out pg bg S HPG.out.1 HPG.out.2.1 HPG.out.2.2 hM hg
                have SC := Lib.hid hSC
                have SO := Lib.hid hSO
                have ER := Lib.hid hER
                have HQ2 : Hid (EE = ((chkS n1 nV nC nR (eL td.edges) nE bg).1, 0)) := Lib.hid (by rw [HQ.out, hSE])
                have CE : Hid (∀ W, St5 w td vP (.slice AV nV kV) (.slice AC nC kC) (.slice AR nR kR) (.slice AE nE kE) W → W.cell? ⟨w.heap.size + 1 + 1, 1, none⟩ = some (.int .i64 bg) ∧ W.cell? ⟨w.heap.size + 1 + 1, 3, none⟩ = some (.slice AV nV kV) ∧ W.cell? ⟨w.heap.size + 1 + 1, 4, none⟩ = some (.slice AC nC kC) ∧ W.cell? ⟨w.heap.size + 1 + 1, 5, none⟩ = some (.slice AR nR kR) ∧ W.cell? ⟨w.heap.size + 1 + 1, 6, none⟩ = some (.slice AE nE kE)) := Lib.hid (fun W h => by
                  refine ⟨?_, h.1.blk.cell 3, h.1.blk.cell 4, h.1.blk.cell 5, h.1.blk.cell 6⟩
                  have h1 : W.cell? ⟨w.heap.size + 1 + 1, 1, none⟩ = some (.int .i64 (td.bg.getD (-1))) := h.1.blk.cell 1
                  rw [HPG.out.2.1] at h1
                  exact h1)
                have m0 : w5.cell? ⟨fb, 0, none⟩ = some (.int .i64 0) := X5.out.cell 0
                clear hSC hSO hER hSE hM hg
                go_upto_region 23 with fail
                refine rg_begin (S := fun W => W.cell? ⟨w.heap.size + 1 + 1, 1, none⟩ = some (.int .i64 bg) ∧ W.cell? ⟨w.heap.size + 1 + 1, 3, none⟩ = some (.slice AV nV kV) ∧ W.cell? ⟨w.heap.size + 1 + 1, 4, none⟩ = some (.slice AC nC kC) ∧ W.cell? ⟨w.heap.size + 1 + 1, 5, none⟩ = some (.slice AR nR kR) ∧ W.cell? ⟨w.heap.size + 1 + 1, 6, none⟩ = some (.slice AE nE kE)) 16 #[false, false, false, false, false, false, false, false, false, false, false, false, false, false, false, false] (by kernel_rfl) (by kernel_rfl) (by kernel_rfl) ?_ (fun hHeld => ?_)
                · exact CE.out _ H5.out.drew
                have H6 := Lib.hid H5.out.drew
                have SC6 := Lib.hid (SC.out.kp (L := []) (Kp.refl [] _).drew (by simp))
                have ER6 := Lib.hid (FRow.kp ER.out (Kp.refl [] _).drew (by simp))
                clear H5 X5 O5 SC ER m0
                generalize World.drew w5 = wE at *
                refine rg_take (i := 0) (d := some 91) (l := #[true, false, false, false, false, false, false, false, false, false, false, false, false, false, false, false]) (fuel := 15) (v := ?_) rfl (by kernel_rfl) (by kernel_rfl) (by kernel_rfl) (by kernel_rfl) (by kernel_rfl) (fun _ _ _ h => h) (by kernel_rfl) ?_ (by assumption) ?_
                rotate_left 1
                · (intro wS hSw; (try dsimp only at hSw); go_simp; try with_reducible rfl)
                try simp only [Act.put, List.setIfInBounds_toArray, List.set_cons_zero, List.set_cons_succ]
                refine rg_take (i := 1) (d := some 92) (l := #[true, true, false, false, false, false, false, false, false, false, false, false, false, false, false, false]) (fuel := 14) (v := ?_) rfl (by kernel_rfl) (by kernel_rfl) (by kernel_rfl) (by kernel_rfl) (by kernel_rfl) (fun _ _ _ h => h) (by kernel_rfl) ?_ (by assumption) ?_
                rotate_left 1
                · (intro wS hSw; (try dsimp only at hSw); go_simp; try with_reducible rfl)
                try simp only [Act.put, List.setIfInBounds_toArray, List.set_cons_zero, List.set_cons_succ]
                refine rg_take (i := 2) (d := some 93) (l := #[true, true, true, false, false, false, false, false, false, false, false, false, false, false, false, false]) (fuel := 13) (v := ?_) rfl (by kernel_rfl) (by kernel_rfl) (by kernel_rfl) (by kernel_rfl) (by kernel_rfl) (fun _ _ _ h => h) (by kernel_rfl) ?_ (by assumption) ?_
                rotate_left 1
                · (intro wS hSw; (try dsimp only at hSw); go_simp; try with_reducible rfl)
                try simp only [Act.put, List.setIfInBounds_toArray, List.set_cons_zero, List.set_cons_succ]
                refine rg_take (i := 3) (d := some 94) (l := #[true, true, true, true, false, false, false, false, false, false, false, false, false, false, false, false]) (fuel := 12) (v := ?_) rfl (by kernel_rfl) (by kernel_rfl) (by kernel_rfl) (by kernel_rfl) (by kernel_rfl) (fun _ _ _ h => h) (by kernel_rfl) ?_ (by assumption) ?_
                rotate_left 1
                · (intro wS hSw; (try dsimp only at hSw); go_simp; try with_reducible rfl)
                try simp only [Act.put, List.setIfInBounds_toArray, List.set_cons_zero, List.set_cons_succ]
                refine rg_take (i := 4) (d := some 95) (l := #[true, true, true, true, true, false, false, false, false, false, false, false, false, false, false, false]) (fuel := 11) (v := ?_) rfl (by kernel_rfl) (by kernel_rfl) (by kernel_rfl) (by kernel_rfl) (by kernel_rfl) (fun _ _ _ h => h) (by kernel_rfl) ?_ (by assumption) ?_
                rotate_left 1
                · (intro wS hSw; (try dsimp only at hSw); go_simp; try with_reducible rfl)
                try simp only [Act.put, List.setIfInBounds_toArray, List.set_cons_zero, List.set_cons_succ]
                refine rg_take (i := 5) (d := some 96) (l := #[true, true, true, true, true, true, false, false, false, false, false, false, false, false, false, false]) (fuel := 10) (v := ?_) rfl (by kernel_rfl) (by kernel_rfl) (by kernel_rfl) (by kernel_rfl) (by kernel_rfl) (fun _ _ _ h => h) (by kernel_rfl) ?_ (by assumption) ?_
                rotate_left 1
                · (intro wS hSw; (try dsimp only at hSw); go_simp; try with_reducible rfl)
                try simp only [Act.put, List.setIfInBounds_toArray, List.set_cons_zero, List.set_cons_succ]
                refine rg_take (i := 6) (d := some 97) (l := #[true, true, true, true, true, true, true, false, false, false, false, false, false, false, false, false]) (fuel := 9) (v := ?_) rfl (by kernel_rfl) (by kernel_rfl) (by kernel_rfl) (by kernel_rfl) (by kernel_rfl) (fun _ _ _ h => h) (by kernel_rfl) ?_ (by assumption) ?_
                rotate_left 1
                · (intro wS hSw; (try dsimp only at hSw); go_simp; try with_reducible rfl)
                try simp only [Act.put, List.setIfInBounds_toArray, List.set_cons_zero, List.set_cons_succ]
                refine rg_take (i := 7) (d := some 98) (l := #[true, true, true, true, true, true, true, true, false, false, false, false, false, false, false, false]) (fuel := 8) (v := ?_) rfl (by kernel_rfl) (by kernel_rfl) (by kernel_rfl) (by kernel_rfl) (by kernel_rfl) (fun _ _ _ h => h) (by kernel_rfl) ?_ (by assumption) ?_
                rotate_left 1
                · (intro wS hSw; (try dsimp only at hSw); go_simp; try with_reducible rfl)
                try simp only [Act.put, List.setIfInBounds_toArray, List.set_cons_zero, List.set_cons_succ]
                refine rg_take (i := 8) (d := some 99) (l := #[true, true, true, true, true, true, true, true, true, false, false, false, false, false, false, false]) (fuel := 7) (v := ?_) rfl (by kernel_rfl) (by kernel_rfl) (by kernel_rfl) (by kernel_rfl) (by kernel_rfl) (fun _ _ _ h => h) (by kernel_rfl) ?_ (by assumption) ?_
                rotate_left 1
                · (intro wS hSw; (try dsimp only at hSw); go_simp; try with_reducible rfl)
                try simp only [Act.put, List.setIfInBounds_toArray, List.set_cons_zero, List.set_cons_succ]
                refine rg_take (i := 9) (d := some 100) (l := #[true, true, true, true, true, true, true, true, true, true, false, false, false, false, false, false]) (fuel := 6) (v := ?_) rfl (by kernel_rfl) (by kernel_rfl) (by kernel_rfl) (by kernel_rfl) (by kernel_rfl) (fun _ _ _ h => h) (by kernel_rfl) ?_ (by assumption) ?_
                rotate_left 1
                · (intro wS hSw; (try dsimp only at hSw); go_simp; try with_reducible rfl)
                try simp only [Act.put, List.setIfInBounds_toArray, List.set_cons_zero, List.set_cons_succ]
                refine rg_take (i := 10) (d := some 101) (l := #[true, true, true, true, true, true, true, true, true, true, true, false, false, false, false, false]) (fuel := 5) (v := ?_) rfl (by kernel_rfl) (by kernel_rfl) (by kernel_rfl) (by kernel_rfl) (by kernel_rfl) (fun _ _ _ h => h) (by kernel_rfl) ?_ (by assumption) ?_
                rotate_left 1
                · (intro wS hSw; (try dsimp only at hSw); go_simp; try with_reducible rfl)
                try simp only [Act.put, List.setIfInBounds_toArray, List.set_cons_zero, List.set_cons_succ]
                refine rg_take (i := 11) (d := some 102) (l := #[true, true, true, true, true, true, true, true, true, true, true, true, false, false, false, false]) (fuel := 4) (v := ?_) rfl (by kernel_rfl) (by kernel_rfl) (by kernel_rfl) (by kernel_rfl) (by kernel_rfl) (fun _ _ _ h => h) (by kernel_rfl) ?_ (by assumption) ?_
                rotate_left 1
                · (intro wS hSw; (try dsimp only at hSw); go_simp; try with_reducible rfl)
                try simp only [Act.put, List.setIfInBounds_toArray, List.set_cons_zero, List.set_cons_succ]
                refine rg_take (i := 12) (d := some 103) (l := #[true, true, true, true, true, true, true, true, true, true, true, true, true, false, false, false]) (fuel := 3) (v := ?_) rfl (by kernel_rfl) (by kernel_rfl) (by kernel_rfl) (by kernel_rfl) (by kernel_rfl) (fun _ _ _ h => h) (by kernel_rfl) ?_ (by assumption) ?_
                rotate_left 1
                · (intro wS hSw; (try dsimp only at hSw); go_simp; try with_reducible rfl)
                try simp only [Act.put, List.setIfInBounds_toArray, List.set_cons_zero, List.set_cons_succ]
                refine rg_take (i := 13) (d := some 104) (l := #[true, true, true, true, true, true, true, true, true, true, true, true, true, true, false, false]) (fuel := 2) (v := ?_) rfl (by kernel_rfl) (by kernel_rfl) (by kernel_rfl) (by kernel_rfl) (by kernel_rfl) (fun _ _ _ h => h) (by kernel_rfl) ?_ (by assumption) ?_
                rotate_left 1
                · (intro wS hSw; (try dsimp only at hSw); go_simp; try with_reducible rfl)
                try simp only [Act.put, List.setIfInBounds_toArray, List.set_cons_zero, List.set_cons_succ]
                refine rg_next (i := 14) (l := #[true, true, true, true, true, true, true, true, true, true, true, true, true, true, true, false]) (fuel := 1) (by kernel_rfl) rfl (by kernel_rfl) (by kernel_rfl) (fun K hK => ?_)
                go_simp
                skip
                first | (refine hK.out _ _ ?_ (fun hHeld => ?_)) | (go_wp2_with fail; refine hK.out _ _ ?_ (fun hHeld => ?_))
                · (try dsimp only); exact CE.out _ (H6.out.alloc _)
                clear hK K
                try simp only [Act.put, List.setIfInBounds_toArray, List.set_cons_zero, List.set_cons_succ]
                generalize hw5 : World.alloc wE _ = w7
                have hw6 : wE.alloc (.cells sv0.cs 27) = w7 := hw5
                have N7 : Blk w7 wE.heap.size 27 sv0.cs := hw6 ▸ Blk.new _ _ _
                have H7 := Lib.hid (hw6 ▸ H6.out.alloc (.cells sv0.cs 27))
                have S7 := Lib.hid (hw6 ▸ SC6.out.keep ((Below.refl _ wE).alloc (Nat.le_refl _) (.cells sv0.cs 27)))
                have E7 := Lib.hid (hw6 ▸ FRow.keep ER6.out ((Below.refl _ wE).alloc (Nat.le_refl _) (.cells sv0.cs 27)))
                have hnb1 : w.heap.size + 1 < wE.heap.size := H6.out.2.2.1.lt
                obtain ⟨nb, hnb⟩ : ∃ x, wE.heap.size = x := ⟨_, rfl⟩
                rw [hnb] at N7 hnb1
                rw [hnb]
                clear H6 SC6 ER6 hw5 hw6 hnb
                have HN7 := Lib.hid N7
                have a0 : w7.cell? ⟨nb, 0, none⟩ = some (.slice none 0 0) := N7.cell 0
                have b0 : w7.frozen? ⟨nb, 0, none⟩ = false := N7.frozen 0
                have a1 : w7.cell? ⟨nb, 1, none⟩ = some (.slice none 0 0) := N7.cell 1
                have b1 : w7.frozen? ⟨nb, 1, none⟩ = false := N7.frozen 1
                have a2 : w7.cell? ⟨nb, 2, none⟩ = some (.slice none 0 0) := N7.cell 2
                have b2 : w7.frozen? ⟨nb, 2, none⟩ = false := N7.frozen 2
                have a3 : w7.cell? ⟨nb, 3, none⟩ = some (.slice none 0 0) := N7.cell 3
                have b3 : w7.frozen? ⟨nb, 3, none⟩ = false := N7.frozen 3
                have a4 : w7.cell? ⟨nb, 4, none⟩ = some (.slice none 0 0) := N7.cell 4
                have b4 : w7.frozen? ⟨nb, 4, none⟩ = false := N7.frozen 4
                have a5 : w7.cell? ⟨nb, 5, none⟩ = some (.int .i64 0) := N7.cell 5
                have b5 : w7.frozen? ⟨nb, 5, none⟩ = false := N7.frozen 5
                have H8 := Lib.hid (H7.out.six N7 hnb1 (.slice A1 n1 c1) (.slice AV nV kV) (.slice AC nC kC) (.slice AR nR kR) (.slice AE nE kE) (.int .i64 bg))
                clear N7
                refine rg_next (i := 15) (l := #[true, true, true, true, true, true, true, true, true, true, true, true, true, true, true, true]) (fuel := 0) (by kernel_rfl) rfl (by kernel_rfl) (by kernel_rfl) (fun K hK => ?_)
                go_simp
                skip
                first | (refine hK.out _ _ ?_ (fun hHeld => ?_)) | (go_wp2_with fail; refine hK.out _ _ ?_ (fun hHeld => ?_))
                · (try dsimp only); exact CE.out _ H8.out
                clear hK K
                try simp only [Act.put, List.setIfInBounds_toArray, List.set_cons_zero, List.set_cons_succ]
                refine wpAnyH_done (by kernel_rfl) ?_ _
                have hk := zero_six HN7.out H7.out.2.2.2 (by omega) (.slice A1 n1 c1) (.slice AV nV kV) (.slice AC nC kC) (.slice AR nR kR) (.slice AE nE kE) (.int .i64 bg)
                have kk : Kp [nb] w7 ((((((w7.setCell ⟨nb, 0, none⟩ (.slice A1 n1 c1)).setCell ⟨nb, 1, none⟩ (.slice AV nV kV)).setCell ⟨nb, 2, none⟩ (.slice AC nC kC)).setCell ⟨nb, 3, none⟩ (.slice AR nR kR)).setCell ⟨nb, 4, none⟩ (.slice AE nE kE)).setCell ⟨nb, 5, none⟩ (.int .i64 bg)) := (((((((Kp.refl [nb] w7).setCell (p := ⟨nb, 0, none⟩) (.inl (by simp)) _).setCell (p := ⟨nb, 1, none⟩) (.inl (by simp)) _).setCell (p := ⟨nb, 2, none⟩) (.inl (by simp)) _).setCell (p := ⟨nb, 3, none⟩) (.inl (by simp)) _).setCell (p := ⟨nb, 4, none⟩) (.inl (by simp)) _).setCell (p := ⟨nb, 5, none⟩) (.inl (by simp)) _)
                have hofs : ∀ x ∈ [nb], ∃ T cs, Blk w7 x T cs ∧ T ≠ 5 ∧ T ≠ 31 := fun x hx => by
                  simp only [List.mem_singleton] at hx; subst hx
                  exact ⟨_, _, HN7.out, by decide, by decide⟩
                have S8 := S7.out.kp kk hofs
                have E8 : ERow ((((((w7.setCell ⟨nb, 0, none⟩ (.slice A1 n1 c1)).setCell ⟨nb, 1, none⟩ (.slice AV nV kV)).setCell ⟨nb, 2, none⟩ (.slice AC nC kC)).setCell ⟨nb, 3, none⟩ (.slice AR nR kR)).setCell ⟨nb, 4, none⟩ (.slice AE nE kE)).setCell ⟨nb, 5, none⟩ (.int .i64 bg)) AE nE (eL td.edges) := S8.edges.2.2.2.1
                have N8 := hk.2
                obtain ⟨w8, hw8⟩ : ∃ x, ((((((w7.setCell ⟨nb, 0, none⟩ (.slice A1 n1 c1)).setCell ⟨nb, 1, none⟩ (.slice AV nV kV)).setCell ⟨nb, 2, none⟩ (.slice AC nC kC)).setCell ⟨nb, 3, none⟩ (.slice AR nR kR)).setCell ⟨nb, 4, none⟩ (.slice AE nE kE)).setCell ⟨nb, 5, none⟩ (.int .i64 bg)) = x := ⟨_, rfl⟩
                rw [hw8] at S8 E8 N8 H8 ⊢
                have HCK : Calls Tryd.prog 14 #[.agg #[.slice A1 n1 c1, .slice AV nV kV, .slice AC nC kC, .slice AR nR kR, .slice AE nE kE, .int .i64 bg]] w8 fun e w' => e = .returned (fltV (chkS n1 nV nC nR (eL td.edges) nE bg)) ∧ Below w8.heap.size w8 w' := rsccheck_any ⟨A1, n1, c1, AV, nV, kV, AC, nC, kC, AR, nR, kR, AE, nE, kE, bg⟩ (eL td.edges) SO.out E8
                obtain ⟨rr, hrr⟩ : ∃ x, chkS n1 nV nC nR (eL td.edges) nE bg = x := ⟨_, rfl⟩
                rw [hrr] at HCK HQ2
                obtain ⟨qa, qb⟩ := rr
                dsimp only at HQ2
                have n_0 : w8.cell? ⟨nb, 0, none⟩ = some (.slice A1 n1 c1) := N8.cell 0
                have n_1 : w8.cell? ⟨nb, 1, none⟩ = some (.slice AV nV kV) := N8.cell 1
                have n_2 : w8.cell? ⟨nb, 2, none⟩ = some (.slice AC nC kC) := N8.cell 2
                have n_3 : w8.cell? ⟨nb, 3, none⟩ = some (.slice AR nR kR) := N8.cell 3
                have n_4 : w8.cell? ⟨nb, 4, none⟩ = some (.slice AE nE kE) := N8.cell 4
                have n_5 : w8.cell? ⟨nb, 5, none⟩ = some (.int .i64 bg) := N8.cell 5
                have HS8 := Lib.hid S8
                have HN8 := Lib.hid N8
                have CK := Lib.hid HCK
                clear hk kk hofs S8 E8 N8 HCK hrr hw8 HN7 H7 S7 E7 a0 a1 a2 a3 a4 a5 b0 b1 b2 b3 b4 b5
                go_wp2_with fail
                refine CK.out.mono ?_
                rintro e w9 ⟨rfl, b9⟩
                unfold fltV
                dsimp only
                have SS9 := Lib.hid (HS8.out.keep b9)
                have N9 := Lib.hid (HN8.out.below b9 HN8.out.lt)
                have H9 := Lib.hid (H8.out.below b9)
                have HF8 := Lib.hid (fin8 H9.out.2.1 H9.out.2.2.1 H9.out.2.2.2)
                clear b9 n_0 n_1 n_2 n_3 n_4 n_5 HS8 HN8 H8 CK
                have d0 : w9.cell? ⟨w.heap.size, 0, none⟩ = some (.slice none 0 0) := H9.out.2.1.cell 0
                have y0 : w9.frozen? ⟨w.heap.size, 0, none⟩ = false := H9.out.2.1.frozen 0
                have d1 : w9.cell? ⟨w.heap.size, 1, none⟩ = some (.slice none 0 0) := H9.out.2.1.cell 1
                have y1 : w9.frozen? ⟨w.heap.size, 1, none⟩ = false := H9.out.2.1.frozen 1
                have d2 : w9.cell? ⟨w.heap.size, 2, none⟩ = some (.slice none 0 0) := H9.out.2.1.cell 2
                have y2 : w9.frozen? ⟨w.heap.size, 2, none⟩ = false := H9.out.2.1.frozen 2
                have d3 : w9.cell? ⟨w.heap.size, 3, none⟩ = some (.slice none 0 0) := H9.out.2.1.cell 3
                have y3 : w9.frozen? ⟨w.heap.size, 3, none⟩ = false := H9.out.2.1.frozen 3
                have d4 : w9.cell? ⟨w.heap.size, 4, none⟩ = some (.slice none 0 0) := H9.out.2.1.cell 4
                have y4 : w9.frozen? ⟨w.heap.size, 4, none⟩ = false := H9.out.2.1.frozen 4
                have d5 : w9.cell? ⟨w.heap.size, 5, none⟩ = some (.int .i64 0) := H9.out.2.1.cell 5
                have y5 : w9.frozen? ⟨w.heap.size, 5, none⟩ = false := H9.out.2.1.frozen 5
                have f0 : w9.cell? ⟨w.heap.size + 1, 0, none⟩ = some (.int .i64 0) := H9.out.2.2.1.cell 0
                have g0 : w9.frozen? ⟨w.heap.size + 1, 0, none⟩ = false := H9.out.2.2.1.frozen 0
                have f1 : w9.cell? ⟨w.heap.size + 1, 1, none⟩ = some (.int .i64 0) := H9.out.2.2.1.cell 1
                have g1 : w9.frozen? ⟨w.heap.size + 1, 1, none⟩ = false := H9.out.2.2.1.frozen 1
                have hfld := fault_field qa qb w9
                by_cases hqa : qa = 0
                · subst hqa
                  have n_0 : w9.cell? ⟨nb, 0, none⟩ = some (.slice A1 n1 c1) := N9.out.cell 0
                  have n_1 : w9.cell? ⟨nb, 1, none⟩ = some (.slice AV nV kV) := N9.out.cell 1
                  have n_2 : w9.cell? ⟨nb, 2, none⟩ = some (.slice AC nC kC) := N9.out.cell 2
                  have n_3 : w9.cell? ⟨nb, 3, none⟩ = some (.slice AR nR kR) := N9.out.cell 3
                  have n_4 : w9.cell? ⟨nb, 4, none⟩ = some (.slice AE nE kE) := N9.out.cell 4
                  have n_5 : w9.cell? ⟨nb, 5, none⟩ = some (.int .i64 bg) := N9.out.cell 5
                  have kk : Kp [w.heap.size, w.heap.size + 1] w9 ((((((((w9.setCell ⟨w.heap.size, 0, none⟩ (.slice A1 n1 c1)).setCell ⟨w.heap.size, 1, none⟩ (.slice AV nV kV)).setCell ⟨w.heap.size, 2, none⟩ (.slice AC nC kC)).setCell ⟨w.heap.size, 3, none⟩ (.slice AR nR kR)).setCell ⟨w.heap.size, 4, none⟩ (.slice AE nE kE)).setCell ⟨w.heap.size, 5, none⟩ (.int .i64 bg)).setCell ⟨w.heap.size + 1, 0, none⟩ (.int .i64 0)).setCell ⟨w.heap.size + 1, 1, none⟩ (.int .i64 0)) := (((((((((Kp.refl [w.heap.size, w.heap.size + 1] w9).setCell (p := ⟨w.heap.size, 0, none⟩) (.inl (by simp)) _).setCell (p := ⟨w.heap.size, 1, none⟩) (.inl (by simp)) _).setCell (p := ⟨w.heap.size, 2, none⟩) (.inl (by simp)) _).setCell (p := ⟨w.heap.size, 3, none⟩) (.inl (by simp)) _).setCell (p := ⟨w.heap.size, 4, none⟩) (.inl (by simp)) _).setCell (p := ⟨w.heap.size, 5, none⟩) (.inl (by simp)) _).setCell (p := ⟨w.heap.size + 1, 0, none⟩) (.inl (by simp)) _).setCell (p := ⟨w.heap.size + 1, 1, none⟩) (.inl (by simp)) _)
                  have SF := Lib.hid (SS9.out.kp kk (fun x hx => by
                    rcases List.mem_cons.1 hx with rfl | hx
                    · exact ⟨_, _, H9.out.2.1, by decide, by decide⟩
                    · simp only [List.mem_singleton] at hx; subst hx; exact ⟨_, _, H9.out.2.2.1, by decide, by decide⟩))
                  clear kk
                  go_wp2_with fail
                  (try simp (config := { zetaDelta := true }) only [Exit.inBlock, Exit.then])
                  have hz := HF8.out (.slice A1 n1 c1) (.slice AV nV kV) (.slice AC nC kC) (.slice AR nR kR) (.slice AE nE kE) (.int .i64 bg) (.int .i64 0) (.int .i64 0)
                  refine bodyPost_ret (results_cell2 (a := ⟨w.heap.size, 0, none⟩) (b := ⟨w.heap.size + 1, 0, none⟩) Tryd.results17 (by rfl) (hz.2.1.run_load (P := Tryd.prog) Tryd.underlying27 rfl sizeS) (by rfl) (hz.2.2.run_load (P := Tryd.prog) Tryd.underlying34 rfl sizeF)) rfl ?_
                  exact ⟨hz.1, Or.inr ⟨by rw [HQ2.out], ⟨A1, n1, c1, AV, nV, kV, AC, nC, kC, AR, nR, kR, AE, nE, kE, bg⟩, by rw [HQ2.out]; rfl, by rw [HQP.out]; exact SF.out, SO.out⟩⟩
                · have e1 : (qa != 0) = true := by rw [bne_iff_ne]; exact hqa
                  have HQA : Hid (qa ≠ 0) := Lib.hid hqa
                  clear hqa
                  go_wp2_with fail
                  (try simp (config := { zetaDelta := true }) only [Exit.inBlock, Exit.then])
                  have hz := HF8.out (.slice none 0 0) (.slice none 0 0) (.slice none 0 0) (.slice none 0 0) (.slice none 0 0) (.int .i64 0) (.int .i64 qa) (.int .i64 0)
                  refine bodyPost_ret (results_cell2 (a := ⟨w.heap.size, 0, none⟩) (b := ⟨w.heap.size + 1, 0, none⟩) Tryd.results17 (by rfl) (hz.2.1.run_load (P := Tryd.prog) Tryd.underlying27 rfl sizeS) (by rfl) (hz.2.2.run_load (P := Tryd.prog) Tryd.underlying34 rfl sizeF)) rfl ?_
                  exact ⟨hz.1, Or.inl ⟨by rw [HQ2.out]; exact HQA.out, by rw [HQ2.out]; rfl⟩⟩
            refine rg_step (i := 12) (l := #[true, true, true, true, true, true, true, true, false, false, false, false, true, false, false]) rfl (by kernel_rfl) (by kernel_rfl) ?_ ?_
            · intro K hK
              go_simp
              skip
              first | (refine hK.out _ _ ?_ (fun hHeld => ?_)) | (go_wp2_with fail; refine hK.out _ _ ?_ (fun hHeld => ?_))
              · (try dsimp only); exact ⟨CG.out _ (HD.out.alloc _), (HD.out.alloc _).1.blk.cell 2⟩
              clear hK K
              try simp only [Act.put, List.setIfInBounds_toArray, List.set_cons_zero, List.set_cons_succ]
              have H2 := Lib.hid (HD.out.alloc (.cells #[.int .i64 0, .int .i64 0] 34))
              have X2 : Hid (Blk (wD.alloc (.cells #[.int .i64 0, .int .i64 0] 34)) wD.heap.size 34 #[.int .i64 0, .int .i64 0]) := Lib.hid (Blk.new _ _ _)
              have HFB : Hid (w.heap.size + 1 < wD.heap.size) := Lib.hid HD.out.2.2.1.lt
              generalize hw3 : World.alloc wD _ = w2
              have hw4 : wD.alloc (.cells #[.int .i64 0, .int .i64 0] 34) = w2 := hw3
              rw [hw4] at H2 X2
              obtain ⟨fb, hfb⟩ : ∃ x, wD.heap.size = x := ⟨_, rfl⟩
              rw [hfb] at X2 HFB
              rw [hfb]
              clear hw3 hw4 hfb HD
              refine rg_next (i := 8) (l := #[true, true, true, true, true, true, true, true, true, false, false, false, true, false, false]) (fuel := 5) (by kernel_rfl) rfl (by kernel_rfl) (by kernel_rfl) (fun K hK => ?_)
              go_simp
              refine (rimg_any H2.out.1 HWO.out.1 pg S HPG.out.1 HPG.out.2.2).mono ?_
              rintro e w3 ⟨A1, n1, c1, fe, fj, rfl, b2, hout⟩
              have H3 := Lib.hid (H2.out.below b2)
              have HOUT := Lib.hid (show Out S td w3 A1 n1 c1 fe from hout)
              have X3 := Lib.hid (X2.out.below b2 X2.out.lt)
              first | (refine hK.out _ _ ?_ (fun hHeld => ?_)) | (go_wp2_with fail; refine hK.out _ _ ?_ (fun hHeld => ?_))
              · (try dsimp only); exact ⟨CG.out _ H3.out, H3.out.1.blk.cell 2⟩
              clear hK K
              try simp only [Act.put, List.setIfInBounds_toArray, List.set_cons_zero, List.set_cons_succ]
              have O3 := HOUT
              clear b2 hout HOUT H2 X2
              refine rg_take (i := 9) (d := some 74) (l := #[true, true, true, true, true, true, true, true, true, true, false, false, true, false, false]) (fuel := 4) (v := ?_) rfl (by kernel_rfl) (by kernel_rfl) (by kernel_rfl) (by kernel_rfl) (by kernel_rfl) (fun _ _ _ h => h) (by kernel_rfl) ?_ (by assumption) ?_
              rotate_left 1
              · (intro wS hSw; (try dsimp only at hSw); go_simp; try with_reducible rfl)
              try simp only [Act.put, List.setIfInBounds_toArray, List.set_cons_zero, List.set_cons_succ]
              refine rg_take (i := 10) (d := some 84) (l := #[true, true, true, true, true, true, true, true, true, true, true, false, true, false, false]) (fuel := 3) (v := ?_) rfl (by kernel_rfl) (by kernel_rfl) (by kernel_rfl) (by kernel_rfl) (by kernel_rfl) (fun _ _ _ h => h) (by kernel_rfl) ?_ (by assumption) ?_
              rotate_left 1
              · (intro wS hSw; (try dsimp only at hSw); go_simp; try with_reducible rfl)
              try simp only [Act.put, List.setIfInBounds_toArray, List.set_cons_zero, List.set_cons_succ]
              refine rg_take (i := 11) (d := some 85) (l := #[true, true, true, true, true, true, true, true, true, true, true, true, true, false, false]) (fuel := 2) (v := ?_) rfl (by kernel_rfl) (by kernel_rfl) (by kernel_rfl) (by kernel_rfl) (by kernel_rfl) (fun _ _ _ h => h) (by kernel_rfl) ?_ (by assumption) ?_
              rotate_left 1
              · (intro wS hSw; (try dsimp only at hSw); go_simp; try with_reducible rfl)
              try simp only [Act.put, List.setIfInBounds_toArray, List.set_cons_zero, List.set_cons_succ]
              refine rg_take (i := 13) (d := some 10) (l := #[true, true, true, true, true, true, true, true, true, true, true, true, true, true, false]) (fuel := 1) (v := ?_) rfl (by kernel_rfl) (by kernel_rfl) (by kernel_rfl) (by kernel_rfl) (by kernel_rfl) (fun _ _ _ h => h) (by kernel_rfl) ?_ (by assumption) ?_
              rotate_left 1
              · (intro wS hSw; (try dsimp only at hSw); go_simp; try with_reducible rfl)
              try simp only [Act.put, List.setIfInBounds_toArray, List.set_cons_zero, List.set_cons_succ]
              have hn3 : w.heap.size + 1 < fb := HFB.out
              have a0 : w3.cell? ⟨fb, 0, none⟩ = some (.int .i64 0) := X3.out.cell 0
              have a1 : w3.cell? ⟨fb, 1, none⟩ = some (.int .i64 0) := X3.out.cell 1
              have b0 : w3.frozen? ⟨fb, 0, none⟩ = false := X3.out.frozen 0
              have b1 : w3.frozen? ⟨fb, 1, none⟩ = false := X3.out.frozen 1
              have H5 := Lib.hid (H3.out.two X3.out hn3 (.int .i64 fe) (.int .i64 fj))
              have O5 := Lib.hid (O3.out.two X3.out (.int .i64 fe) (.int .i64 fj))
              have X5 : Hid (Blk ((w3.setCell ⟨fb, 0, none⟩ (.int .i64 fe)).setCell ⟨fb, 1, none⟩ (.int .i64 fj)) fb 34 #[.int .i64 fe, .int .i64 fj]) := Lib.hid ((X3.out.set_ 0 _).set_ 1 _)
              refine rg_next (i := 14) (l := #[true, true, true, true, true, true, true, true, true, true, true, true, true, true, true]) (fuel := 0) (by kernel_rfl) rfl (by kernel_rfl) (by kernel_rfl) (fun K hK => ?_)
              go_simp
              skip
              first | (refine hK.out _ _ ?_ (fun hHeld => ?_)) | (go_wp2_with fail; refine hK.out _ _ ?_ (fun hHeld => ?_))
              · (try dsimp only); exact ⟨CG.out _ H5.out, H5.out.1.blk.cell 2⟩
              clear hK K
              try simp only [Act.put, List.setIfInBounds_toArray, List.set_cons_zero, List.set_cons_succ]
              obtain ⟨w5, hw5⟩ : ∃ x, ((w3.setCell ⟨fb, 0, none⟩ (.int .i64 fe)).setCell ⟨fb, 1, none⟩ (.int .i64 fj)) = x := ⟨_, rfl⟩
              rw [hw5] at H5 O5 X5 ⊢
              clear hw5 a0 a1 b0 b1 H3 O3 X3 hn3
              refine wpAnyH_done (by kernel_rfl) ?_ _
              rcases O5.out with ⟨rfl, hg⟩ | ⟨rfl, hg, hM⟩
              · have HE1 : Hid (EE = (1, 0)) := Lib.hid (by rw [HQ.out, scrE_bad HPG.out.1 HPG.out.2.1 HPG.out.2.2 hg])
                have HF8 := Lib.hid (fin8 H5.out.2.1 H5.out.2.2.1 H5.out.2.2.2)
                have d0 : w5.cell? ⟨w.heap.size, 0, none⟩ = some (.slice none 0 0) := H5.out.2.1.cell 0
                have y0 : w5.frozen? ⟨w.heap.size, 0, none⟩ = false := H5.out.2.1.frozen 0
                have d1 : w5.cell? ⟨w.heap.size, 1, none⟩ = some (.slice none 0 0) := H5.out.2.1.cell 1
                have y1 : w5.frozen? ⟨w.heap.size, 1, none⟩ = false := H5.out.2.1.frozen 1
                have d2 : w5.cell? ⟨w.heap.size, 2, none⟩ = some (.slice none 0 0) := H5.out.2.1.cell 2
                have y2 : w5.frozen? ⟨w.heap.size, 2, none⟩ = false := H5.out.2.1.frozen 2
                have d3 : w5.cell? ⟨w.heap.size, 3, none⟩ = some (.slice none 0 0) := H5.out.2.1.cell 3
                have y3 : w5.frozen? ⟨w.heap.size, 3, none⟩ = false := H5.out.2.1.frozen 3
                have d4 : w5.cell? ⟨w.heap.size, 4, none⟩ = some (.slice none 0 0) := H5.out.2.1.cell 4
                have y4 : w5.frozen? ⟨w.heap.size, 4, none⟩ = false := H5.out.2.1.frozen 4
                have d5 : w5.cell? ⟨w.heap.size, 5, none⟩ = some (.int .i64 0) := H5.out.2.1.cell 5
                have y5 : w5.frozen? ⟨w.heap.size, 5, none⟩ = false := H5.out.2.1.frozen 5
                have f0 : w5.cell? ⟨w.heap.size + 1, 0, none⟩ = some (.int .i64 0) := H5.out.2.2.1.cell 0
                have g0 : w5.frozen? ⟨w.heap.size + 1, 0, none⟩ = false := H5.out.2.2.1.frozen 0
                have f1 : w5.cell? ⟨w.heap.size + 1, 1, none⟩ = some (.int .i64 0) := H5.out.2.2.1.cell 1
                have g1 : w5.frozen? ⟨w.heap.size + 1, 1, none⟩ = false := H5.out.2.2.1.frozen 1
                have m0 : w5.cell? ⟨fb, 0, none⟩ = some (.int .i64 1) := X5.out.cell 0
                clear hg
                go_wp2_with fail
                (try simp (config := { zetaDelta := true }) only [Exit.inBlock, Exit.then])
                have hz := HF8.out (.slice none 0 0) (.slice none 0 0) (.slice none 0 0) (.slice none 0 0) (.slice none 0 0) (.int .i64 0) (.int .i64 1) (.int .i64 0)
                refine bodyPost_ret (results_cell2 (a := ⟨w.heap.size, 0, none⟩) (b := ⟨w.heap.size + 1, 0, none⟩) Tryd.results17 (by rfl) (hz.2.1.run_load (P := Tryd.prog) Tryd.underlying27 rfl sizeS) (by rfl) (hz.2.2.run_load (P := Tryd.prog) Tryd.underlying34 rfl sizeF)) rfl ?_
                exact ⟨hz.1, Or.inl ⟨by rw [HE1.out]; simp, by rw [HE1.out]; rfl⟩⟩
              · obtain ⟨AV, nV, kV, AC, nC, kC, AR, nR, kR, AE, nE, kE, rfl, rfl, rfl, rfl, hSC, hSO, hER, hSE⟩ := scr_of H5.out.1 HWO.out.1 HOO.out pg bg S HPG.out.1 HPG.out.2.1 HPG.out.2.2 hM hg
                have SC := Lib.hid hSC
                have SO := Lib.hid hSO
                have ER := Lib.hid hER
                have HQ2 : Hid (EE = ((chkS n1 nV nC nR (eL td.edges) nE bg).1, 0)) := Lib.hid (by rw [HQ.out, hSE])
                have CE : Hid (∀ W, St5 w td vP (.slice AV nV kV) (.slice AC nC kC) (.slice AR nR kR) (.slice AE nE kE) W → W.cell? ⟨w.heap.size + 1 + 1, 1, none⟩ = some (.int .i64 bg) ∧ W.cell? ⟨w.heap.size + 1 + 1, 3, none⟩ = some (.slice AV nV kV) ∧ W.cell? ⟨w.heap.size + 1 + 1, 4, none⟩ = some (.slice AC nC kC) ∧ W.cell? ⟨w.heap.size + 1 + 1, 5, none⟩ = some (.slice AR nR kR) ∧ W.cell? ⟨w.heap.size + 1 + 1, 6, none⟩ = some (.slice AE nE kE)) := Lib.hid (fun W h => by
                  refine ⟨?_, h.1.blk.cell 3, h.1.blk.cell 4, h.1.blk.cell 5, h.1.blk.cell 6⟩
                  have h1 : W.cell? ⟨w.heap.size + 1 + 1, 1, none⟩ = some (.int .i64 (td.bg.getD (-1))) := h.1.blk.cell 1
                  rw [HPG.out.2.1] at h1
                  exact h1)
                have m0 : w5.cell? ⟨fb, 0, none⟩ = some (.int .i64 0) := X5.out.cell 0
                clear hSC hSO hER hSE hM hg
                go_upto_region 23 with fail
                refine rg_begin (S := fun W => W.cell? ⟨w.heap.size + 1 + 1, 1, none⟩ = some (.int .i64 bg) ∧ W.cell? ⟨w.heap.size + 1 + 1, 3, none⟩ = some (.slice AV nV kV) ∧ W.cell? ⟨w.heap.size + 1 + 1, 4, none⟩ = some (.slice AC nC kC) ∧ W.cell? ⟨w.heap.size + 1 + 1, 5, none⟩ = some (.slice AR nR kR) ∧ W.cell? ⟨w.heap.size + 1 + 1, 6, none⟩ = some (.slice AE nE kE)) 16 #[false, false, false, false, false, false, false, false, false, false, false, false, false, false, false, false] (by kernel_rfl) (by kernel_rfl) (by kernel_rfl) ?_ (fun hHeld => ?_)
                · exact CE.out _ H5.out.drew
                have H6 := Lib.hid H5.out.drew
                have SC6 := Lib.hid (SC.out.kp (L := []) (Kp.refl [] _).drew (by simp))
                have ER6 := Lib.hid (FRow.kp ER.out (Kp.refl [] _).drew (by simp))
                clear H5 X5 O5 SC ER m0
                generalize World.drew w5 = wE at *
                refine rg_take (i := 0) (d := some 91) (l := #[true, false, false, false, false, false, false, false, false, false, false, false, false, false, false, false]) (fuel := 15) (v := ?_) rfl (by kernel_rfl) (by kernel_rfl) (by kernel_rfl) (by kernel_rfl) (by kernel_rfl) (fun _ _ _ h => h) (by kernel_rfl) ?_ (by assumption) ?_
                rotate_left 1
                · (intro wS hSw; (try dsimp only at hSw); go_simp; try with_reducible rfl)
                try simp only [Act.put, List.setIfInBounds_toArray, List.set_cons_zero, List.set_cons_succ]
                refine rg_take (i := 1) (d := some 92) (l := #[true, true, false, false, false, false, false, false, false, false, false, false, false, false, false, false]) (fuel := 14) (v := ?_) rfl (by kernel_rfl) (by kernel_rfl) (by kernel_rfl) (by kernel_rfl) (by kernel_rfl) (fun _ _ _ h => h) (by kernel_rfl) ?_ (by assumption) ?_
                rotate_left 1
                · (intro wS hSw; (try dsimp only at hSw); go_simp; try with_reducible rfl)
                try simp only [Act.put, List.setIfInBounds_toArray, List.set_cons_zero, List.set_cons_succ]
                refine rg_take (i := 2) (d := some 93) (l := #[true, true, true, false, false, false, false, false, false, false, false, false, false, false, false, false]) (fuel := 13) (v := ?_) rfl (by kernel_rfl) (by kernel_rfl) (by kernel_rfl) (by kernel_rfl) (by kernel_rfl) (fun _ _ _ h => h) (by kernel_rfl) ?_ (by assumption) ?_
                rotate_left 1
                · (intro wS hSw; (try dsimp only at hSw); go_simp; try with_reducible rfl)
                try simp only [Act.put, List.setIfInBounds_toArray, List.set_cons_zero, List.set_cons_succ]
                refine rg_take (i := 3) (d := some 94) (l := #[true, true, true, true, false, false, false, false, false, false, false, false, false, false, false, false]) (fuel := 12) (v := ?_) rfl (by kernel_rfl) (by kernel_rfl) (by kernel_rfl) (by kernel_rfl) (by kernel_rfl) (fun _ _ _ h => h) (by kernel_rfl) ?_ (by assumption) ?_
                rotate_left 1
                · (intro wS hSw; (try dsimp only at hSw); go_simp; try with_reducible rfl)
                try simp only [Act.put, List.setIfInBounds_toArray, List.set_cons_zero, List.set_cons_succ]
                refine rg_take (i := 4) (d := some 95) (l := #[true, true, true, true, true, false, false, false, false, false, false, false, false, false, false, false]) (fuel := 11) (v := ?_) rfl (by kernel_rfl) (by kernel_rfl) (by kernel_rfl) (by kernel_rfl) (by kernel_rfl) (fun _ _ _ h => h) (by kernel_rfl) ?_ (by assumption) ?_
                rotate_left 1
                · (intro wS hSw; (try dsimp only at hSw); go_simp; try with_reducible rfl)
                try simp only [Act.put, List.setIfInBounds_toArray, List.set_cons_zero, List.set_cons_succ]
                refine rg_take (i := 5) (d := some 96) (l := #[true, true, true, true, true, true, false, false, false, false, false, false, false, false, false, false]) (fuel := 10) (v := ?_) rfl (by kernel_rfl) (by kernel_rfl) (by kernel_rfl) (by kernel_rfl) (by kernel_rfl) (fun _ _ _ h => h) (by kernel_rfl) ?_ (by assumption) ?_
                rotate_left 1
                · (intro wS hSw; (try dsimp only at hSw); go_simp; try with_reducible rfl)
                try simp only [Act.put, List.setIfInBounds_toArray, List.set_cons_zero, List.set_cons_succ]
                refine rg_take (i := 6) (d := some 97) (l := #[true, true, true, true, true, true, true, false, false, false, false, false, false, false, false, false]) (fuel := 9) (v := ?_) rfl (by kernel_rfl) (by kernel_rfl) (by kernel_rfl) (by kernel_rfl) (by kernel_rfl) (fun _ _ _ h => h) (by kernel_rfl) ?_ (by assumption) ?_
                rotate_left 1
                · (intro wS hSw; (try dsimp only at hSw); go_simp; try with_reducible rfl)
                try simp only [Act.put, List.setIfInBounds_toArray, List.set_cons_zero, List.set_cons_succ]
                refine rg_take (i := 7) (d := some 98) (l := #[true, true, true, true, true, true, true, true, false, false, false, false, false, false, false, false]) (fuel := 8) (v := ?_) rfl (by kernel_rfl) (by kernel_rfl) (by kernel_rfl) (by kernel_rfl) (by kernel_rfl) (fun _ _ _ h => h) (by kernel_rfl) ?_ (by assumption) ?_
                rotate_left 1
                · (intro wS hSw; (try dsimp only at hSw); go_simp; try with_reducible rfl)
                try simp only [Act.put, List.setIfInBounds_toArray, List.set_cons_zero, List.set_cons_succ]
                refine rg_take (i := 8) (d := some 99) (l := #[true, true, true, true, true, true, true, true, true, false, false, false, false, false, false, false]) (fuel := 7) (v := ?_) rfl (by kernel_rfl) (by kernel_rfl) (by kernel_rfl) (by kernel_rfl) (by kernel_rfl) (fun _ _ _ h => h) (by kernel_rfl) ?_ (by assumption) ?_
                rotate_left 1
                · (intro wS hSw; (try dsimp only at hSw); go_simp; try with_reducible rfl)
                try simp only [Act.put, List.setIfInBounds_toArray, List.set_cons_zero, List.set_cons_succ]
                refine rg_take (i := 9) (d := some 100) (l := #[true, true, true, true, true, true, true, true, true, true, false, false, false, false, false, false]) (fuel := 6) (v := ?_) rfl (by kernel_rfl) (by kernel_rfl) (by kernel_rfl) (by kernel_rfl) (by kernel_rfl) (fun _ _ _ h => h) (by kernel_rfl) ?_ (by assumption) ?_
                rotate_left 1
                · (intro wS hSw; (try dsimp only at hSw); go_simp; try with_reducible rfl)
                try simp only [Act.put, List.setIfInBounds_toArray, List.set_cons_zero, List.set_cons_succ]
                refine rg_take (i := 10) (d := some 101) (l := #[true, true, true, true, true, true, true, true, true, true, true, false, false, false, false, false]) (fuel := 5) (v := ?_) rfl (by kernel_rfl) (by kernel_rfl) (by kernel_rfl) (by kernel_rfl) (by kernel_rfl) (fun _ _ _ h => h) (by kernel_rfl) ?_ (by assumption) ?_
                rotate_left 1
                · (intro wS hSw; (try dsimp only at hSw); go_simp; try with_reducible rfl)
                try simp only [Act.put, List.setIfInBounds_toArray, List.set_cons_zero, List.set_cons_succ]
                refine rg_take (i := 11) (d := some 102) (l := #[true, true, true, true, true, true, true, true, true, true, true, true, false, false, false, false]) (fuel := 4) (v := ?_) rfl (by kernel_rfl) (by kernel_rfl) (by kernel_rfl) (by kernel_rfl) (by kernel_rfl) (fun _ _ _ h => h) (by kernel_rfl) ?_ (by assumption) ?_
                rotate_left 1
                · (intro wS hSw; (try dsimp only at hSw); go_simp; try with_reducible rfl)
                try simp only [Act.put, List.setIfInBounds_toArray, List.set_cons_zero, List.set_cons_succ]
                refine rg_take (i := 12) (d := some 103) (l := #[true, true, true, true, true, true, true, true, true, true, true, true, true, false, false, false]) (fuel := 3) (v := ?_) rfl (by kernel_rfl) (by kernel_rfl) (by kernel_rfl) (by kernel_rfl) (by kernel_rfl) (fun _ _ _ h => h) (by kernel_rfl) ?_ (by assumption) ?_
                rotate_left 1
                · (intro wS hSw; (try dsimp only at hSw); go_simp; try with_reducible rfl)
                try simp only [Act.put, List.setIfInBounds_toArray, List.set_cons_zero, List.set_cons_succ]
                refine rg_take (i := 13) (d := some 104) (l := #[true, true, true, true, true, true, true, true, true, true, true, true, true, true, false, false]) (fuel := 2) (v := ?_) rfl (by kernel_rfl) (by kernel_rfl) (by kernel_rfl) (by kernel_rfl) (by kernel_rfl) (fun _ _ _ h => h) (by kernel_rfl) ?_ (by assumption) ?_
                rotate_left 1
                · (intro wS hSw; (try dsimp only at hSw); go_simp; try with_reducible rfl)
                try simp only [Act.put, List.setIfInBounds_toArray, List.set_cons_zero, List.set_cons_succ]
                refine rg_next (i := 14) (l := #[true, true, true, true, true, true, true, true, true, true, true, true, true, true, true, false]) (fuel := 1) (by kernel_rfl) rfl (by kernel_rfl) (by kernel_rfl) (fun K hK => ?_)
                go_simp
                skip
                first | (refine hK.out _ _ ?_ (fun hHeld => ?_)) | (go_wp2_with fail; refine hK.out _ _ ?_ (fun hHeld => ?_))
                · (try dsimp only); exact CE.out _ (H6.out.alloc _)
                clear hK K
                try simp only [Act.put, List.setIfInBounds_toArray, List.set_cons_zero, List.set_cons_succ]
                generalize hw5 : World.alloc wE _ = w7
                have hw6 : wE.alloc (.cells sv0.cs 27) = w7 := hw5
                have N7 : Blk w7 wE.heap.size 27 sv0.cs := hw6 ▸ Blk.new _ _ _
                have H7 := Lib.hid (hw6 ▸ H6.out.alloc (.cells sv0.cs 27))
                have S7 := Lib.hid (hw6 ▸ SC6.out.keep ((Below.refl _ wE).alloc (Nat.le_refl _) (.cells sv0.cs 27)))
                have E7 := Lib.hid (hw6 ▸ FRow.keep ER6.out ((Below.refl _ wE).alloc (Nat.le_refl _) (.cells sv0.cs 27)))
                have hnb1 : w.heap.size + 1 < wE.heap.size := H6.out.2.2.1.lt
                obtain ⟨nb, hnb⟩ : ∃ x, wE.heap.size = x := ⟨_, rfl⟩
                rw [hnb] at N7 hnb1
                rw [hnb]
                clear H6 SC6 ER6 hw5 hw6 hnb
                have HN7 := Lib.hid N7
                have a0 : w7.cell? ⟨nb, 0, none⟩ = some (.slice none 0 0) := N7.cell 0
                have b0 : w7.frozen? ⟨nb, 0, none⟩ = false := N7.frozen 0
                have a1 : w7.cell? ⟨nb, 1, none⟩ = some (.slice none 0 0) := N7.cell 1
                have b1 : w7.frozen? ⟨nb, 1, none⟩ = false := N7.frozen 1
                have a2 : w7.cell? ⟨nb, 2, none⟩ = some (.slice none 0 0) := N7.cell 2
                have b2 : w7.frozen? ⟨nb, 2, none⟩ = false := N7.frozen 2
                have a3 : w7.cell? ⟨nb, 3, none⟩ = some (.slice none 0 0) := N7.cell 3
                have b3 : w7.frozen? ⟨nb, 3, none⟩ = false := N7.frozen 3
                have a4 : w7.cell? ⟨nb, 4, none⟩ = some (.slice none 0 0) := N7.cell 4
                have b4 : w7.frozen? ⟨nb, 4, none⟩ = false := N7.frozen 4
                have a5 : w7.cell? ⟨nb, 5, none⟩ = some (.int .i64 0) := N7.cell 5
                have b5 : w7.frozen? ⟨nb, 5, none⟩ = false := N7.frozen 5
                have H8 := Lib.hid (H7.out.six N7 hnb1 (.slice A1 n1 c1) (.slice AV nV kV) (.slice AC nC kC) (.slice AR nR kR) (.slice AE nE kE) (.int .i64 bg))
                clear N7
                refine rg_next (i := 15) (l := #[true, true, true, true, true, true, true, true, true, true, true, true, true, true, true, true]) (fuel := 0) (by kernel_rfl) rfl (by kernel_rfl) (by kernel_rfl) (fun K hK => ?_)
                go_simp
                skip
                first | (refine hK.out _ _ ?_ (fun hHeld => ?_)) | (go_wp2_with fail; refine hK.out _ _ ?_ (fun hHeld => ?_))
                · (try dsimp only); exact CE.out _ H8.out
                clear hK K
                try simp only [Act.put, List.setIfInBounds_toArray, List.set_cons_zero, List.set_cons_succ]
                refine wpAnyH_done (by kernel_rfl) ?_ _
                have hk := zero_six HN7.out H7.out.2.2.2 (by omega) (.slice A1 n1 c1) (.slice AV nV kV) (.slice AC nC kC) (.slice AR nR kR) (.slice AE nE kE) (.int .i64 bg)
                have kk : Kp [nb] w7 ((((((w7.setCell ⟨nb, 0, none⟩ (.slice A1 n1 c1)).setCell ⟨nb, 1, none⟩ (.slice AV nV kV)).setCell ⟨nb, 2, none⟩ (.slice AC nC kC)).setCell ⟨nb, 3, none⟩ (.slice AR nR kR)).setCell ⟨nb, 4, none⟩ (.slice AE nE kE)).setCell ⟨nb, 5, none⟩ (.int .i64 bg)) := (((((((Kp.refl [nb] w7).setCell (p := ⟨nb, 0, none⟩) (.inl (by simp)) _).setCell (p := ⟨nb, 1, none⟩) (.inl (by simp)) _).setCell (p := ⟨nb, 2, none⟩) (.inl (by simp)) _).setCell (p := ⟨nb, 3, none⟩) (.inl (by simp)) _).setCell (p := ⟨nb, 4, none⟩) (.inl (by simp)) _).setCell (p := ⟨nb, 5, none⟩) (.inl (by simp)) _)
                have hofs : ∀ x ∈ [nb], ∃ T cs, Blk w7 x T cs ∧ T ≠ 5 ∧ T ≠ 31 := fun x hx => by
                  simp only [List.mem_singleton] at hx; subst hx
                  exact ⟨_, _, HN7.out, by decide, by decide⟩
                have S8 := S7.out.kp kk hofs
                have E8 : ERow ((((((w7.setCell ⟨nb, 0, none⟩ (.slice A1 n1 c1)).setCell ⟨nb, 1, none⟩ (.slice AV nV kV)).setCell ⟨nb, 2, none⟩ (.slice AC nC kC)).setCell ⟨nb, 3, none⟩ (.slice AR nR kR)).setCell ⟨nb, 4, none⟩ (.slice AE nE kE)).setCell ⟨nb, 5, none⟩ (.int .i64 bg)) AE nE (eL td.edges) := S8.edges.2.2.2.1
                have N8 := hk.2
                obtain ⟨w8, hw8⟩ : ∃ x, ((((((w7.setCell ⟨nb, 0, none⟩ (.slice A1 n1 c1)).setCell ⟨nb, 1, none⟩ (.slice AV nV kV)).setCell ⟨nb, 2, none⟩ (.slice AC nC kC)).setCell ⟨nb, 3, none⟩ (.slice AR nR kR)).setCell ⟨nb, 4, none⟩ (.slice AE nE kE)).setCell ⟨nb, 5, none⟩ (.int .i64 bg)) = x := ⟨_, rfl⟩
                rw [hw8] at S8 E8 N8 H8 ⊢
                have HCK : Calls Tryd.prog 14 #[.agg #[.slice A1 n1 c1, .slice AV nV kV, .slice AC nC kC, .slice AR nR kR, .slice AE nE kE, .int .i64 bg]] w8 fun e w' => e = .returned (fltV (chkS n1 nV nC nR (eL td.edges) nE bg)) ∧ Below w8.heap.size w8 w' := rsccheck_any ⟨A1, n1, c1, AV, nV, kV, AC, nC, kC, AR, nR, kR, AE, nE, kE, bg⟩ (eL td.edges) SO.out E8
                obtain ⟨rr, hrr⟩ : ∃ x, chkS n1 nV nC nR (eL td.edges) nE bg = x := ⟨_, rfl⟩
                rw [hrr] at HCK HQ2
                obtain ⟨qa, qb⟩ := rr
                dsimp only at HQ2
                have n_0 : w8.cell? ⟨nb, 0, none⟩ = some (.slice A1 n1 c1) := N8.cell 0
                have n_1 : w8.cell? ⟨nb, 1, none⟩ = some (.slice AV nV kV) := N8.cell 1
                have n_2 : w8.cell? ⟨nb, 2, none⟩ = some (.slice AC nC kC) := N8.cell 2
                have n_3 : w8.cell? ⟨nb, 3, none⟩ = some (.slice AR nR kR) := N8.cell 3
                have n_4 : w8.cell? ⟨nb, 4, none⟩ = some (.slice AE nE kE) := N8.cell 4
                have n_5 : w8.cell? ⟨nb, 5, none⟩ = some (.int .i64 bg) := N8.cell 5
                have HS8 := Lib.hid S8
                have HN8 := Lib.hid N8
                have CK := Lib.hid HCK
                clear hk kk hofs S8 E8 N8 HCK hrr hw8 HN7 H7 S7 E7 a0 a1 a2 a3 a4 a5 b0 b1 b2 b3 b4 b5
                go_wp2_with fail
                refine CK.out.mono ?_
                rintro e w9 ⟨rfl, b9⟩
                unfold fltV
                dsimp only
                have SS9 := Lib.hid (HS8.out.keep b9)
                have N9 := Lib.hid (HN8.out.below b9 HN8.out.lt)
                have H9 := Lib.hid (H8.out.below b9)
                have HF8 := Lib.hid (fin8 H9.out.2.1 H9.out.2.2.1 H9.out.2.2.2)
                clear b9 n_0 n_1 n_2 n_3 n_4 n_5 HS8 HN8 H8 CK
                have d0 : w9.cell? ⟨w.heap.size, 0, none⟩ = some (.slice none 0 0) := H9.out.2.1.cell 0
                have y0 : w9.frozen? ⟨w.heap.size, 0, none⟩ = false := H9.out.2.1.frozen 0
                have d1 : w9.cell? ⟨w.heap.size, 1, none⟩ = some (.slice none 0 0) := H9.out.2.1.cell 1
                have y1 : w9.frozen? ⟨w.heap.size, 1, none⟩ = false := H9.out.2.1.frozen 1
                have d2 : w9.cell? ⟨w.heap.size, 2, none⟩ = some (.slice none 0 0) := H9.out.2.1.cell 2
                have y2 : w9.frozen? ⟨w.heap.size, 2, none⟩ = false := H9.out.2.1.frozen 2
                have d3 : w9.cell? ⟨w.heap.size, 3, none⟩ = some (.slice none 0 0) := H9.out.2.1.cell 3
                have y3 : w9.frozen? ⟨w.heap.size, 3, none⟩ = false := H9.out.2.1.frozen 3
                have d4 : w9.cell? ⟨w.heap.size, 4, none⟩ = some (.slice none 0 0) := H9.out.2.1.cell 4
                have y4 : w9.frozen? ⟨w.heap.size, 4, none⟩ = false := H9.out.2.1.frozen 4
                have d5 : w9.cell? ⟨w.heap.size, 5, none⟩ = some (.int .i64 0) := H9.out.2.1.cell 5
                have y5 : w9.frozen? ⟨w.heap.size, 5, none⟩ = false := H9.out.2.1.frozen 5
                have f0 : w9.cell? ⟨w.heap.size + 1, 0, none⟩ = some (.int .i64 0) := H9.out.2.2.1.cell 0
                have g0 : w9.frozen? ⟨w.heap.size + 1, 0, none⟩ = false := H9.out.2.2.1.frozen 0
                have f1 : w9.cell? ⟨w.heap.size + 1, 1, none⟩ = some (.int .i64 0) := H9.out.2.2.1.cell 1
                have g1 : w9.frozen? ⟨w.heap.size + 1, 1, none⟩ = false := H9.out.2.2.1.frozen 1
                have hfld := fault_field qa qb w9
                by_cases hqa : qa = 0
                · subst hqa
                  have n_0 : w9.cell? ⟨nb, 0, none⟩ = some (.slice A1 n1 c1) := N9.out.cell 0
                  have n_1 : w9.cell? ⟨nb, 1, none⟩ = some (.slice AV nV kV) := N9.out.cell 1
                  have n_2 : w9.cell? ⟨nb, 2, none⟩ = some (.slice AC nC kC) := N9.out.cell 2
                  have n_3 : w9.cell? ⟨nb, 3, none⟩ = some (.slice AR nR kR) := N9.out.cell 3
                  have n_4 : w9.cell? ⟨nb, 4, none⟩ = some (.slice AE nE kE) := N9.out.cell 4
                  have n_5 : w9.cell? ⟨nb, 5, none⟩ = some (.int .i64 bg) := N9.out.cell 5
                  have kk : Kp [w.heap.size, w.heap.size + 1] w9 ((((((((w9.setCell ⟨w.heap.size, 0, none⟩ (.slice A1 n1 c1)).setCell ⟨w.heap.size, 1, none⟩ (.slice AV nV kV)).setCell ⟨w.heap.size, 2, none⟩ (.slice AC nC kC)).setCell ⟨w.heap.size, 3, none⟩ (.slice AR nR kR)).setCell ⟨w.heap.size, 4, none⟩ (.slice AE nE kE)).setCell ⟨w.heap.size, 5, none⟩ (.int .i64 bg)).setCell ⟨w.heap.size + 1, 0, none⟩ (.int .i64 0)).setCell ⟨w.heap.size + 1, 1, none⟩ (.int .i64 0)) := (((((((((Kp.refl [w.heap.size, w.heap.size + 1] w9).setCell (p := ⟨w.heap.size, 0, none⟩) (.inl (by simp)) _).setCell (p := ⟨w.heap.size, 1, none⟩) (.inl (by simp)) _).setCell (p := ⟨w.heap.size, 2, none⟩) (.inl (by simp)) _).setCell (p := ⟨w.heap.size, 3, none⟩) (.inl (by simp)) _).setCell (p := ⟨w.heap.size, 4, none⟩) (.inl (by simp)) _).setCell (p := ⟨w.heap.size, 5, none⟩) (.inl (by simp)) _).setCell (p := ⟨w.heap.size + 1, 0, none⟩) (.inl (by simp)) _).setCell (p := ⟨w.heap.size + 1, 1, none⟩) (.inl (by simp)) _)
                  have SF := Lib.hid (SS9.out.kp kk (fun x hx => by
                    rcases List.mem_cons.1 hx with rfl | hx
                    · exact ⟨_, _, H9.out.2.1, by decide, by decide⟩
                    · simp only [List.mem_singleton] at hx; subst hx; exact ⟨_, _, H9.out.2.2.1, by decide, by decide⟩))
                  clear kk
                  go_wp2_with fail
                  (try simp (config := { zetaDelta := true }) only [Exit.inBlock, Exit.then])
                  have hz := HF8.out (.slice A1 n1 c1) (.slice AV nV kV) (.slice AC nC kC) (.slice AR nR kR) (.slice AE nE kE) (.int .i64 bg) (.int .i64 0) (.int .i64 0)
                  refine bodyPost_ret (results_cell2 (a := ⟨w.heap.size, 0, none⟩) (b := ⟨w.heap.size + 1, 0, none⟩) Tryd.results17 (by rfl) (hz.2.1.run_load (P := Tryd.prog) Tryd.underlying27 rfl sizeS) (by rfl) (hz.2.2.run_load (P := Tryd.prog) Tryd.underlying34 rfl sizeF)) rfl ?_
                  exact ⟨hz.1, Or.inr ⟨by rw [HQ2.out], ⟨A1, n1, c1, AV, nV, kV, AC, nC, kC, AR, nR, kR, AE, nE, kE, bg⟩, by rw [HQ2.out]; rfl, by rw [HQP.out]; exact SF.out, SO.out⟩⟩
                · have e1 : (qa != 0) = true := by rw [bne_iff_ne]; exact hqa
                  have HQA : Hid (qa ≠ 0) := Lib.hid hqa
                  clear hqa
                  go_wp2_with fail
                  (try simp (config := { zetaDelta := true }) only [Exit.inBlock, Exit.then])
                  have hz := HF8.out (.slice none 0 0) (.slice none 0 0) (.slice none 0 0) (.slice none 0 0) (.slice none 0 0) (.int .i64 0) (.int .i64 qa) (.int .i64 0)
                  refine bodyPost_ret (results_cell2 (a := ⟨w.heap.size, 0, none⟩) (b := ⟨w.heap.size + 1, 0, none⟩) Tryd.results17 (by rfl) (hz.2.1.run_load (P := Tryd.prog) Tryd.underlying27 rfl sizeS) (by rfl) (hz.2.2.run_load (P := Tryd.prog) Tryd.underlying34 rfl sizeF)) rfl ?_
                  exact ⟨hz.1, Or.inl ⟨by rw [HQ2.out]; exact HQA.out, by rw [HQ2.out]; rfl⟩⟩
            exact AllReadyH.nil
end Go.Proofs.YtnhnphifhkkboaaDoor
