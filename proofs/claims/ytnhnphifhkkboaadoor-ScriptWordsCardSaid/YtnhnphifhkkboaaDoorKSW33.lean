/-
  Texts of these proofs, one behind the other: Scr19, Scr15.
-/
import Derived.Test.YtnhnphifhkkboaaDoorKSW32
import Derived.Test.YtnhnphifhkkboaaDoorKSW08
import Derived.Test.YtnhnphifhkkboaaDoorKSW15
import Derived.Test.YtnhnphifhkkboaaDoorKSW19
namespace Go.Proofs.YtnhnphifhkkboaaDoor
open Go.RowKit Go.Shelf
set_option linter.unusedVariables false
set_option linter.unusedSimpArgs false
set_option maxRecDepth 100000
def rtdL (g : Nat) (vP vV vC vR vE : Value) : List Nat := g :: (vP.ownBlock.toList ++ vV.ownBlock.toList ++ vC.ownBlock.toList ++ vR.ownBlock.toList ++ vE.ownBlock.toList)
structure RTdH (B g : Nat) (td : Td) (vP vV vC vR vE : Value) (w : World) : Prop where
  blk : Blk w g 95 #[.int .i64 (td.pg.getD (-1)), .int .i64 (td.bg.getD (-1)), vP, vV, vC, vR, vE]
  gB : B ≤ g
  rom : ∃ ps : List (Int × Value × List Int), td.rom = ps.map (fun p => (p.1, p.2.2)) ∧ w.ownsRow B 108 2 vP ps.length (ps.flatMap pcC) ∧ (∀ p ∈ ps, w.ownsRow B 5 1 p.2.1 p.2.2.length (bV p.2.2)) ∧
    ∀ p ∈ ps, ∀ q, p.2.1.ownBlock = some q → vV.ownBlock ≠ some q ∧ vC.ownBlock ≠ some q ∧ vR.ownBlock ≠ some q
  rv : w.ownsRow B 5 1 vV td.vdc.length (bV td.vdc)
  rc : w.ownsRow B 5 1 vC td.vce.length (bV td.vce)
  rr : w.ownsRow B 5 1 vR td.port.length (bV td.port)
  re : w.ownsRow B 31 3 vE td.edges.length (td.edges.flatMap edC)
  d1 : ∀ q, vV.ownBlock = some q → vC.ownBlock ≠ some q ∧ vR.ownBlock ≠ some q
  d2 : ∀ q, vC.ownBlock = some q → vR.ownBlock ≠ some q
section
variable {B g : Nat} {td : Td} {vP vV vC vR vE : Value} {w w' : World} {L : List Nat}
theorem mem_rtdL {x : Nat} : x ∈ rtdL g vP vV vC vR vE ↔ x = g ∨ vP.ownBlock = some x ∨ vV.ownBlock = some x ∨ vC.ownBlock = some x ∨ vR.ownBlock = some x ∨ vE.ownBlock = some x := by
  simp [rtdL]
theorem RTdH.off (h : RTdH B g td vP vV vC vR vE w) {u : Nat} {T : TypeId} {cs : Array Value} (hb : Blk w u T cs) (h1 : T ≠ 95) (h2 : T ≠ 5) (h3 : T ≠ 108) (h4 : T ≠ 31) : u ∉ rtdL g vP vV vC vR vE := fun hm => by
  obtain ⟨ps, _, hp, _⟩ := h.rom
  rcases mem_rtdL.1 hm with rfl | e | e | e | e | e
  · exact hb.ne_ h.blk h1 rfl
  · obtain ⟨_, c, hc⟩ := own_has hp e; exact hb.ne_ hc h3 rfl
  · obtain ⟨_, c, hc⟩ := own_has h.rv e; exact hb.ne_ hc h2 rfl
  · obtain ⟨_, c, hc⟩ := own_has h.rc e; exact hb.ne_ hc h2 rfl
  · obtain ⟨_, c, hc⟩ := own_has h.rr e; exact hb.ne_ hc h2 rfl
  · obtain ⟨_, c, hc⟩ := own_has h.re e; exact hb.ne_ hc h4 rfl
theorem RTdH.ge (h : RTdH B g td vP vV vC vR vE w) : ∀ x ∈ rtdL g vP vV vC vR vE, B ≤ x := fun x hm => by
  obtain ⟨ps, _, hp, _⟩ := h.rom
  rcases mem_rtdL.1 hm with rfl | e | e | e | e | e
  · exact h.gB
  · exact (own_has hp e).1
  · exact (own_has h.rv e).1
  · exact (own_has h.rc e).1
  · exact (own_has h.rr e).1
  · exact (own_has h.re e).1
theorem RTdH.kp (h : RTdH B g td vP vV vC vR vE w) (k : Kp L w w') (hT : ∀ x ∈ L, ∃ T cs, Blk w x T cs ∧ T ≠ 95 ∧ T ≠ 5 ∧ T ≠ 108 ∧ T ≠ 31) : RTdH B g td vP vV vC vR vE w' := by
  have no : ∀ x, x ∈ rtdL g vP vV vC vR vE → x ∉ L := fun x hx hL => by
    obtain ⟨T, cs, hb, h1, h2, h3, h4⟩ := hT x hL
    exact h.off hb h1 h2 h3 h4 hx
  obtain ⟨ps, e1, e2, e3, e4⟩ := h.rom
  exact {
    blk := h.blk.kp k (no g (mem_rtdL.2 (Or.inl rfl)))
    gB := h.gB
    rom := ⟨ps, e1, own_kp e2 k (fun q hq => no q (mem_rtdL.2 (Or.inr (Or.inl hq)))), fun p hp => own_kp (e3 p hp) k (fun q hq hL => by
      obtain ⟨T, cs, hb, h1, h2, h3, h4⟩ := hT q hL
      obtain ⟨_, c, hc⟩ := own_has (e3 p hp) hq
      exact hb.ne_ hc h2 rfl), e4⟩
    rv := own_kp h.rv k (fun q hq => no q (mem_rtdL.2 (by simp [hq])))
    rc := own_kp h.rc k (fun q hq => no q (mem_rtdL.2 (by simp [hq])))
    rr := own_kp h.rr k (fun q hq => no q (mem_rtdL.2 (by simp [hq])))
    re := own_kp h.re k (fun q hq => no q (mem_rtdL.2 (by simp [hq])))
    d1 := h.d1
    d2 := h.d2 }
theorem RTdH.below (h : RTdH B g td vP vV vC vR vE w) (k : Below w.heap.size w w') : RTdH B g td vP vV vC vR vE w' := h.kp (L := []) (Kp.of_below k) (by simp)
/-- A number was written. -/
theorem RTdH.setN (h : RTdH B g td vP vV vC vR vE w) (o : Nat) (u : Value) (pg bg : Option Int) (hc : (#[.int .i64 (td.pg.getD (-1)), .int .i64 (td.bg.getD (-1)), vP, vV, vC, vR, vE] : Array Value).setIfInBounds o u = #[.int .i64 (pg.getD (-1)), .int .i64 (bg.getD (-1)), vP, vV, vC, vR, vE]) :
    RTdH B g { td with pg := pg, bg := bg } vP vV vC vR vE (w.setCell ⟨g, o, none⟩ u) := by
  obtain ⟨ps, e1, e2, e3, e4⟩ := h.rom
  have k : Kp [g] w (w.setCell ⟨g, o, none⟩ u) := (Kp.refl [g] w).setCell (p := ⟨g, o, none⟩) (.inl (by simp)) u
  have noG : ∀ {B' e s n : Nat} {u : Value} {xs : List Value}, w.ownsRow B' e s u n xs → e ≠ 95 → ∀ q, u.ownBlock = some q → q ∉ [g] := fun o hne q hq hm => by
    have : q = g := by simpa using hm
    subst this
    obtain ⟨_, c, hc⟩ := own_has o hq
    exact hc.ne_ h.blk hne rfl
  exact {
    blk := by have := h.blk.set_ o u; rwa [hc] at this
    gB := h.gB
    rom := ⟨ps, e1, own_kp e2 k (noG e2 (by decide)), fun p hp => own_kp (e3 p hp) k (noG (e3 p hp) (by decide)), e4⟩
    rv := own_kp h.rv k (noG h.rv (by decide))
    rc := own_kp h.rc k (noG h.rc (by decide))
    rr := own_kp h.rr k (noG h.rr (by decide))
    re := own_kp h.re k (noG h.re (by decide))
    d1 := h.d1
    d2 := h.d2 }
end
/-- What a call that takes a line gives. -/
def RTakeR (B g : Nat) (L : List Nat) (r : Int × Td) (w : World) (e : Ending) (w' : World) : Prop :=
  e = .returned (.int .i64 r.1) ∧ Kp L w w' ∧ (r.1 = 0 → ∃ vP vV vC vR vE, RTdH B g r.2 vP vV vC vR vE w' ∧ ∀ x ∈ rtdL g vP vV vC vR vE, x ∈ L ∨ w.heap.size ≤ x)
/-- One more piece. -/
theorem RTdH.addP {B g : Nat} {td : Td} {vP vV vC vR vE : Value} {w : World} (h : RTdH B g td vP vV vC vR vE w) {at_ : Int} {ys : List Int} {u : Value} (ou : w.ownsRow B 5 1 u ys.length (bV ys)) (du : ∀ q, u.ownBlock = some q → vV.ownBlock ≠ some q ∧ vC.ownBlock ≠ some q ∧ vR.ownBlock ≠ some q) (hB : B ≤ w.heap.size) (hn : td.rom.length ≤ 100000000000) :
    ∃ b c w5, (Builtin.append_ #[82, 82] 82 #[vP, .slice (some ⟨w.heap.size, 0, none⟩) 1 1]).run Tryd.prog (w.alloc (.cells (pcC (at_, u, ys)).toArray 108)) = .ok (.slice (some ⟨b, 0, none⟩) (td.rom.length + 1) c) w5 ∧
      w5.cell? ⟨g, 2, none⟩ = some vP ∧ w5.frozen? ⟨g, 2, none⟩ = false ∧ (w.alloc (.cells (pcC (at_, u, ys)).toArray 108)).grownBy w5 vP.ownBlock ∧
      (∀ u, w.heap[u]? ≠ none → (∀ q, vP.ownBlock = some q → u ≠ q) → w5.heap[u]? = w.heap[u]?) ∧
      RTdH B g { td with rom := td.rom ++ [(at_, ys)] } (.slice (some ⟨b, 0, none⟩) (td.rom.length + 1) c) vV vC vR vE (w5.setCell ⟨g, 2, none⟩ (.slice (some ⟨b, 0, none⟩) (td.rom.length + 1) c)) ∧
      Kp (rtdL g vP vV vC vR vE) w (w5.setCell ⟨g, 2, none⟩ (.slice (some ⟨b, 0, none⟩) (td.rom.length + 1) c)) ∧
      ∀ x ∈ rtdL g (.slice (some ⟨b, 0, none⟩) (td.rom.length + 1) c) vV vC vR vE, x ∈ rtdL g vP vV vC vR vE ∨ w.heap.size ≤ x := by
  obtain ⟨ps, e1, e2, e3, e4⟩ := h.rom
  have hps : td.rom.length = ps.length := by rw [e1, List.length_map]
  have hps2 : td.rom.length = ps.length := hps
  obtain ⟨v', w5, hrun, own, gb, hv⟩ := more_at (P := Tryd.prog) (t := 82) (e := 108) (ty := 82) (c := 1) (m := 1) Tryd.underlying82 piece_info rfl (by decide) e2 (pcC (at_, u, ys)).toArray rfl
    (fun x hx => by
      simp [pcC] at hx
      rcases hx with rfl | rfl
      · rfl
      · rcases ou.2 with ⟨rfl, _⟩ | ⟨_, _, _, rfl, _⟩ <;> rfl) rfl (by omega) (by omega) hB
  obtain ⟨b, c, rfl⟩ := ownsRow_succ own
  rw [← hps] at own hrun hv
  have gne : ∀ q, vP.ownBlock = some q → g ≠ q := fun q hq e => by
    subst e
    obtain ⟨_, cc, hcc⟩ := own_has e2 hq
    exact hcc.ne_ h.blk (by decide) rfl
  obtain ⟨hb6, k6⟩ := row_far (o := 2) (u := .slice (some ⟨b, 0, none⟩) (td.rom.length + 1) c) (h.blk.alloc _) gb gne
  have hb5 := (h.blk.alloc (.cells (pcC (at_, u, ys)).toArray 108)).grown gb (fun e => gne g e.symm rfl)
  have k0 : Kp (g :: vP.ownBlock.toList) w (w5.setCell ⟨g, 2, none⟩ (.slice (some ⟨b, 0, none⟩) (td.rom.length + 1) c)) := ((Kp.refl _ _).alloc _).trans k6 (fun x hx => Or.inl hx)
  have noG : ∀ {B' e s n q : Nat} {u : Value} {xs : List Value}, w.ownsRow B' e s u n xs → e ≠ 95 → u.ownBlock = some q → q ≠ g := fun o hne hq e => by
    subst e
    obtain ⟨_, cc, hcc⟩ := own_has o hq
    exact hcc.ne_ h.blk hne rfl
  have ne {q : Nat} : q ≠ g → vP.ownBlock ≠ some q → q ∉ g :: vP.ownBlock.toList := fun h1 h2 hm => by
    rcases List.mem_cons.1 hm with e | hm
    · exact h1 e
    · exact h2 (by simpa using hm)
  have hbg : b ≠ g := fun e => by
    subst e
    obtain ⟨_, cc, hcc⟩ := own_has own (q := b) rfl
    exact hcc.ne_ hb5 (by decide) rfl
  have own6 := own_kp own ((Kp.refl [g] w5).setCell (p := ⟨g, 2, none⟩) (Or.inl (by simp)) (.slice (some ⟨b, 0, none⟩) (td.rom.length + 1) c)) (fun q hq hm => by
    injection hq with hq; subst hq; exact hbg (by simpa using hm))
  have hL : ∀ x ∈ g :: vP.ownBlock.toList, x ∈ rtdL g vP vV vC vR vE := fun x hx => by
    rcases List.mem_cons.1 hx with rfl | hx
    · exact mem_rtdL.2 (Or.inl rfl)
    · have : vP.ownBlock = some x := by simpa using hx
      exact mem_rtdL.2 (by simp [this])
  refine ⟨b, c, w5, hrun, hb5.cell 2, hb5.frozen 2, gb, fun u hu hq => ?_, {
    blk := hb6
    gB := h.gB
    rom := ⟨ps ++ [(at_, u, ys)], by rw [e1]; simp, by rw [show (ps ++ [(at_, u, ys)]).length = td.rom.length + 1 by rw [List.length_append, hps2]; rfl, show (ps ++ [(at_, u, ys)]).flatMap pcC = ps.flatMap pcC ++ (pcC (at_, u, ys)).toArray.toList by simp]; exact own6, fun p hp => ?_, fun p hp q hq => ?_⟩
    rv := own_kp h.rv k0 (fun q hq => ne (noG h.rv (by decide) hq) (own_ne_own h.rv e2 (by decide) hq))
    rc := own_kp h.rc k0 (fun q hq => ne (noG h.rc (by decide) hq) (own_ne_own h.rc e2 (by decide) hq))
    rr := own_kp h.rr k0 (fun q hq => ne (noG h.rr (by decide) hq) (own_ne_own h.rr e2 (by decide) hq))
    re := own_kp h.re k0 (fun q hq => ne (noG h.re (by decide) hq) (own_ne_own h.re e2 (by decide) hq))
    d1 := h.d1
    d2 := h.d2 }, k0.mono hL, fun x hx => ?_⟩
  · have hlt : u < w.heap.size := by
      rcases Nat.lt_or_ge u w.heap.size with hh | hh
      · exact hh
      · exact absurd (Array.getElem?_eq_none hh) hu
    rw [gb.block u (by simp; omega) (fun e => hq u e.symm rfl)]
    exact Below.heap_alloc _ _ _ hlt
  · rcases List.mem_append.1 hp with hp | hp
    · exact own_kp (e3 p hp) k0 (fun q hq => ne (noG (e3 p hp) (by decide) hq) (own_ne_own (e3 p hp) e2 (by decide) hq))
    · simp only [List.mem_singleton] at hp
      subst hp
      exact own_kp ou k0 (fun q hq => ne (noG ou (by decide) hq) (own_ne_own ou e2 (by decide) hq))
  · rcases List.mem_append.1 hp with hp | hp
    · exact e4 p hp q hq
    · simp only [List.mem_singleton] at hp
      subst hp
      exact du q hq
  · rw [mem_rtdL] at hx ⊢
    have key : b = x → vP.ownBlock = some x ∨ w.heap.size ≤ x := fun e => by
      subst e
      rcases hv with e' | e'
      · exact Or.inl e'.symm
      · have e2 : b = w.heap.size + 1 := Option.some.inj e'
        exact Or.inr (by omega)
    rcases hx with e | e | e | e | e | e
    · exact Or.inl (by simp [e])
    · rcases key (by injection e) with e | e
      · exact Or.inl (by simp [e])
      · exact Or.inr e
    · exact Or.inl (by simp [e])
    · exact Or.inl (by simp [e])
    · exact Or.inl (by simp [e])
    · exact Or.inl (by simp [e])
/-- One more edge. -/
theorem RTdH.addE {B g : Nat} {td : Td} {vP vV vC vR vE : Value} {w : World} (h : RTdH B g td vP vV vC vR vE w) {p : Iib} (hB : B ≤ w.heap.size) (hn : td.edges.length ≤ 100000000000) :
    ∃ b c w5, (Builtin.append_ #[25, 25] 25 #[vE, .slice (some ⟨w.heap.size, 0, none⟩) 1 1]).run Tryd.prog (w.alloc (.cells (edC p).toArray 31)) = .ok (.slice (some ⟨b, 0, none⟩) (td.edges.length + 1) c) w5 ∧
      w5.cell? ⟨g, 6, none⟩ = some vE ∧ w5.frozen? ⟨g, 6, none⟩ = false ∧ (w.alloc (.cells (edC p).toArray 31)).grownBy w5 vE.ownBlock ∧
      (∀ u, w.heap[u]? ≠ none → (∀ q, vE.ownBlock = some q → u ≠ q) → w5.heap[u]? = w.heap[u]?) ∧
      RTdH B g { td with edges := td.edges ++ [p] } vP vV vC vR (.slice (some ⟨b, 0, none⟩) (td.edges.length + 1) c) (w5.setCell ⟨g, 6, none⟩ (.slice (some ⟨b, 0, none⟩) (td.edges.length + 1) c)) ∧
      Kp (rtdL g vP vV vC vR vE) w (w5.setCell ⟨g, 6, none⟩ (.slice (some ⟨b, 0, none⟩) (td.edges.length + 1) c)) ∧
      ∀ x ∈ rtdL g vP vV vC vR (.slice (some ⟨b, 0, none⟩) (td.edges.length + 1) c), x ∈ rtdL g vP vV vC vR vE ∨ w.heap.size ≤ x := by
  obtain ⟨ps, e1, e2, e3, e4⟩ := h.rom
  obtain ⟨v', w5, hrun, own, gb, hv⟩ := more_at (P := Tryd.prog) (t := 25) (e := 31) (ty := 25) (c := 1) (m := 1) Tryd.underlying25 scedge_inf rfl (by decide) h.re (edC p).toArray rfl
    (fun x hx => by
      simp [edC] at hx
      rcases hx with rfl | rfl | rfl <;> rfl) rfl (by omega) (by omega) hB
  obtain ⟨b, c, rfl⟩ := ownsRow_succ own
  have gne : ∀ q, vE.ownBlock = some q → g ≠ q := fun q hq e => by
    subst e
    obtain ⟨_, cc, hcc⟩ := own_has h.re hq
    exact hcc.ne_ h.blk (by decide) rfl
  obtain ⟨hb6, k6⟩ := row_far (o := 6) (u := .slice (some ⟨b, 0, none⟩) (td.edges.length + 1) c) (h.blk.alloc _) gb gne
  have hb5 := (h.blk.alloc (.cells (edC p).toArray 31)).grown gb (fun e => gne g e.symm rfl)
  have k0 : Kp (g :: vE.ownBlock.toList) w (w5.setCell ⟨g, 6, none⟩ (.slice (some ⟨b, 0, none⟩) (td.edges.length + 1) c)) := ((Kp.refl _ _).alloc _).trans k6 (fun x hx => Or.inl hx)
  have noG : ∀ {B' e s n q : Nat} {u : Value} {xs : List Value}, w.ownsRow B' e s u n xs → e ≠ 95 → u.ownBlock = some q → q ≠ g := fun o hne hq e => by
    subst e
    obtain ⟨_, cc, hcc⟩ := own_has o hq
    exact hcc.ne_ h.blk hne rfl
  have ne {q : Nat} : q ≠ g → vE.ownBlock ≠ some q → q ∉ g :: vE.ownBlock.toList := fun h1 h2 hm => by
    rcases List.mem_cons.1 hm with e | hm
    · exact h1 e
    · exact h2 (by simpa using hm)
  have hbg : b ≠ g := fun e => by
    subst e
    obtain ⟨_, cc, hcc⟩ := own_has own (q := b) rfl
    exact hcc.ne_ hb5 (by decide) rfl
  have own6 := own_kp own ((Kp.refl [g] w5).setCell (p := ⟨g, 6, none⟩) (Or.inl (by simp)) (.slice (some ⟨b, 0, none⟩) (td.edges.length + 1) c)) (fun q hq hm => by
    injection hq with hq; subst hq; exact hbg (by simpa using hm))
  have hL : ∀ x ∈ g :: vE.ownBlock.toList, x ∈ rtdL g vP vV vC vR vE := fun x hx => by
    rcases List.mem_cons.1 hx with rfl | hx
    · exact mem_rtdL.2 (Or.inl rfl)
    · have : vE.ownBlock = some x := by simpa using hx
      exact mem_rtdL.2 (by simp [this])
  refine ⟨b, c, w5, hrun, hb5.cell 6, hb5.frozen 6, gb, fun u hu hq => ?_, {
    blk := hb6
    gB := h.gB
    rom := ⟨ps, e1, own_kp e2 k0 (fun q hq => ne (noG e2 (by decide) hq) (own_ne_own e2 h.re (by decide) hq)), fun p hp => own_kp (e3 p hp) k0 (fun q hq => ne (noG (e3 p hp) (by decide) hq) (own_ne_own (e3 p hp) h.re (by decide) hq)), e4⟩
    rv := own_kp h.rv k0 (fun q hq => ne (noG h.rv (by decide) hq) (own_ne_own h.rv h.re (by decide) hq))
    rc := own_kp h.rc k0 (fun q hq => ne (noG h.rc (by decide) hq) (own_ne_own h.rc h.re (by decide) hq))
    rr := own_kp h.rr k0 (fun q hq => ne (noG h.rr (by decide) hq) (own_ne_own h.rr h.re (by decide) hq))
    re := by simpa [List.flatMap_append] using own6
    d1 := h.d1
    d2 := h.d2 }, k0.mono hL, fun x hx => ?_⟩
  · have hlt : u < w.heap.size := by
      rcases Nat.lt_or_ge u w.heap.size with hh | hh
      · exact hh
      · exact absurd (Array.getElem?_eq_none hh) hu
    rw [gb.block u (by simp; omega) (fun e => hq u e.symm rfl)]
    exact Below.heap_alloc _ _ _ hlt
  · rw [mem_rtdL] at hx ⊢
    have key : b = x → vE.ownBlock = some x ∨ w.heap.size ≤ x := fun e => by
      subst e
      rcases hv with e' | e'
      · exact Or.inl e'.symm
      · have e2 : b = w.heap.size + 1 := Option.some.inj e'
        exact Or.inr (by omega)
    rcases hx with e | e | e | e | e | e
    · exact Or.inl (by simp [e])
    · exact Or.inl (by simp [e])
    · exact Or.inl (by simp [e])
    · exact Or.inl (by simp [e])
    · exact Or.inl (by simp [e])
    · rcases key (by injection e) with e | e
      · exact Or.inl (by simp [e])
      · exact Or.inr e
/-- Bytes behind the row of vdc. -/
theorem RTdH.addF0 {B g : Nat} {td : Td} {vP vV vC vR vE : Value} {w : World} (h : RTdH B g td vP vV vC vR vE w) {ad : Addr} {m' : Nat} {ys : List Int} (hy : ys ≠ []) (R : IRow w .u8 (some ad) ys.length (zL ys)) (hB : B ≤ w.heap.size) (hn : td.vdc.length + ys.length ≤ 1000000000000) :
    ∃ b c w5, (Builtin.append_ #[22, 22] 22 #[vV, .slice (some ad) ys.length m']).run Tryd.prog w = .ok (.slice (some ⟨b, 0, none⟩) (td.vdc.length + ys.length) c) w5 ∧
      w5.cell? ⟨g, 3, none⟩ = some vV ∧ w5.frozen? ⟨g, 3, none⟩ = false ∧
      RTdH B g { td with vdc := td.vdc ++ ys } vP (.slice (some ⟨b, 0, none⟩) (td.vdc.length + ys.length) c) vC vR vE (w5.setCell ⟨g, 3, none⟩ (.slice (some ⟨b, 0, none⟩) (td.vdc.length + ys.length) c)) ∧
      Kp (rtdL g vP vV vC vR vE) w (w5.setCell ⟨g, 3, none⟩ (.slice (some ⟨b, 0, none⟩) (td.vdc.length + ys.length) c)) ∧
      ∀ x ∈ rtdL g vP (.slice (some ⟨b, 0, none⟩) (td.vdc.length + ys.length) c) vC vR vE, x ∈ rtdL g vP vV vC vR vE ∨ w.heap.size ≤ x := by
  obtain ⟨ps, e1, e2, e3, e4⟩ := h.rom
  obtain ⟨i, hi, hzz⟩ := Option.map_eq_some_iff.1 u8_info'
  simp only [Prod.mk.injEq] at hzz
  obtain ⟨hz, hs, hb⟩ := hzz
  have hyl : (bV ys).length = ys.length := List.length_map _
  obtain ⟨v', w5, hrun, own, gb, _, hv⟩ := run_append_own_at (P := Tryd.prog) w B 22 22 5 i (.int .u8 0) 1 1 Tryd.underlying22 hi hz hs hb rfl (by omega) vV td.vdc.length (bV td.vdc) h.rv ad ys.length m' (bV ys) (by rw [hyl]; omega)
    (fun j u hu => by
      have hj : j < ys.length := by have := (List.getElem?_eq_some_iff.1 hu).1; rwa [hyl] at this
      rw [bV_ints, intsOf_at .u8 (zL ys) ys.length j hj] at hu
      injection hu with hu; subst hu
      obtain ⟨ae, q1, _, q2, _⟩ := R j hj
      injection q1 with q1; subst q1
      exact q2)
    (by rw [bV_ints]; exact intsOf_one _ _ _) (by unfold maxLen; omega) (by omega) hB
  have hpos : 0 < ys.length := by cases ys with
    | nil => exact absurd rfl hy
    | cons a l => simp
  obtain ⟨b, c, rfl⟩ : ∃ b c, v' = .slice (some ⟨b, 0, none⟩) (td.vdc.length + ys.length) c := by
    rcases own.2 with ⟨_, h0⟩ | ⟨q, cap, cur, e, _⟩
    · omega
    · exact ⟨q, cap, e⟩
  have hcat : bV td.vdc ++ bV ys = bV (td.vdc ++ ys) := by unfold bV; rw [List.map_append]
  rw [hcat, ← List.length_append] at own
  have gne : ∀ q, vV.ownBlock = some q → g ≠ q := fun q hq e => by
    subst e
    obtain ⟨_, cc, hcc⟩ := own_has h.rv hq
    exact hcc.ne_ h.blk (by decide) rfl
  obtain ⟨hb6, k0⟩ := row_far (o := 3) (u := (.slice (some ⟨b, 0, none⟩) (td.vdc.length + ys.length) c)) h.blk gb gne
  have hb5 := h.blk.grown gb (fun e => gne g e.symm rfl)
  have noG : ∀ {B' e s n q : Nat} {u : Value} {xs : List Value}, w.ownsRow B' e s u n xs → e ≠ 95 → u.ownBlock = some q → q ≠ g := fun o hne hq e => by
    subst e
    obtain ⟨_, cc, hcc⟩ := own_has o hq
    exact hcc.ne_ h.blk hne rfl
  have ne {q : Nat} : q ≠ g → vV.ownBlock ≠ some q → q ∉ g :: vV.ownBlock.toList := fun h1 h2 hm => by
    rcases List.mem_cons.1 hm with e | hm
    · exact h1 e
    · exact h2 (by simpa using hm)
  have hbg : b ≠ g := fun e => by
    subst e
    obtain ⟨_, cc, hcc⟩ := own_has own (q := b) rfl
    exact hcc.ne_ hb5 (by decide) rfl
  have own6 := own_kp own ((Kp.refl [g] w5).setCell (p := ⟨g, 3, none⟩) (Or.inl (by simp)) (.slice (some ⟨b, 0, none⟩) (td.vdc.length + ys.length) c)) (fun q hq hm => by
    injection hq with hq; subst hq; exact hbg (by simpa using hm))
  have hv2 : ∀ {q : Nat}, b = q → vV.ownBlock = some q ∨ w.heap.size ≤ q := fun {q} e => by
    subst e
    rcases hv with e' | e'
    · exact Or.inl e'.symm
    · exact Or.inr (Nat.le_of_eq (Option.some.inj e').symm)
  have hL : ∀ x ∈ g :: vV.ownBlock.toList, x ∈ rtdL g vP vV vC vR vE := fun x hx => by
    rcases List.mem_cons.1 hx with rfl | hx
    · exact mem_rtdL.2 (Or.inl rfl)
    · have : vV.ownBlock = some x := by simpa using hx
      exact mem_rtdL.2 (by simp [this])
  refine ⟨b, c, w5, hrun, hb5.cell 3, hb5.frozen 3, {
    blk := hb6
    gB := h.gB
    rom := ⟨ps, e1, own_kp e2 k0 (fun q hq => ne (noG e2 (by decide) hq) (own_ne_own e2 h.rv (by decide) hq)), fun p hp => own_kp (e3 p hp) k0 (fun q hq => ne (noG (e3 p hp) (by decide) hq) (e4 p hp q hq).1), fun p hp q hq => ?_⟩
    rv := by have e : (td.vdc ++ ys).length = td.vdc.length + ys.length := List.length_append; have h7 := own6; rw [e] at h7; show World.ownsRow _ B 5 1 _ (td.vdc ++ ys).length (bV (td.vdc ++ ys)); rw [e]; exact h7
    rc := own_kp h.rc k0 (fun q hq => ne (noG h.rc (by decide) hq) (fun hh => (h.d1 q hh).1 hq))
    rr := own_kp h.rr k0 (fun q hq => ne (noG h.rr (by decide) hq) (fun hh => (h.d1 q hh).2 hq))
    re := own_kp h.re k0 (fun q hq => ne (noG h.re (by decide) hq) (own_ne_own h.re h.rv (by decide) hq))
    d1 := fun q hq => ?_
    d2 := fun q hq => ?_ }, k0.mono hL, fun x hx => ?_⟩
  · have hx := e4 p hp q hq
    have hlt := own_lt (e3 p hp) hq
    have hn' : Value.ownBlock (.slice (some ⟨b, 0, none⟩) (td.vdc.length + ys.length) c) ≠ some q := fun e => by
      rcases hv2 (Option.some.inj e) with e2 | e2
      · exact hx.1 e2
      · omega
    exact ⟨hn', hx.2.1, hx.2.2⟩
  · rcases hv2 (Option.some.inj hq) with e2 | e2
    · exact h.d1 q e2
    · exact ⟨fun e3 => by have := own_lt h.rc e3; omega, fun e3 => by have := own_lt h.rr e3; omega⟩
  · exact h.d2 q hq
  · rw [mem_rtdL] at hx ⊢
    rcases hx with e | e | e | e | e | e
    · exact Or.inl (by simp [e])
    · exact Or.inl (by simp [e])
    · rcases hv2 (Option.some.inj e) with e | e
      · exact Or.inl (by simp [e])
      · exact Or.inr e
    · exact Or.inl (by simp [e])
    · exact Or.inl (by simp [e])
    · exact Or.inl (by simp [e])
/-- Bytes behind the row of vce. -/
theorem RTdH.addF1 {B g : Nat} {td : Td} {vP vV vC vR vE : Value} {w : World} (h : RTdH B g td vP vV vC vR vE w) {ad : Addr} {m' : Nat} {ys : List Int} (hy : ys ≠ []) (R : IRow w .u8 (some ad) ys.length (zL ys)) (hB : B ≤ w.heap.size) (hn : td.vce.length + ys.length ≤ 1000000000000) :
    ∃ b c w5, (Builtin.append_ #[22, 22] 22 #[vC, .slice (some ad) ys.length m']).run Tryd.prog w = .ok (.slice (some ⟨b, 0, none⟩) (td.vce.length + ys.length) c) w5 ∧
      w5.cell? ⟨g, 4, none⟩ = some vC ∧ w5.frozen? ⟨g, 4, none⟩ = false ∧
      RTdH B g { td with vce := td.vce ++ ys } vP vV (.slice (some ⟨b, 0, none⟩) (td.vce.length + ys.length) c) vR vE (w5.setCell ⟨g, 4, none⟩ (.slice (some ⟨b, 0, none⟩) (td.vce.length + ys.length) c)) ∧
      Kp (rtdL g vP vV vC vR vE) w (w5.setCell ⟨g, 4, none⟩ (.slice (some ⟨b, 0, none⟩) (td.vce.length + ys.length) c)) ∧
      ∀ x ∈ rtdL g vP vV (.slice (some ⟨b, 0, none⟩) (td.vce.length + ys.length) c) vR vE, x ∈ rtdL g vP vV vC vR vE ∨ w.heap.size ≤ x := by
  obtain ⟨ps, e1, e2, e3, e4⟩ := h.rom
  obtain ⟨i, hi, hzz⟩ := Option.map_eq_some_iff.1 u8_info'
  simp only [Prod.mk.injEq] at hzz
  obtain ⟨hz, hs, hb⟩ := hzz
  have hyl : (bV ys).length = ys.length := List.length_map _
  obtain ⟨v', w5, hrun, own, gb, _, hv⟩ := run_append_own_at (P := Tryd.prog) w B 22 22 5 i (.int .u8 0) 1 1 Tryd.underlying22 hi hz hs hb rfl (by omega) vC td.vce.length (bV td.vce) h.rc ad ys.length m' (bV ys) (by rw [hyl]; omega)
    (fun j u hu => by
      have hj : j < ys.length := by have := (List.getElem?_eq_some_iff.1 hu).1; rwa [hyl] at this
      rw [bV_ints, intsOf_at .u8 (zL ys) ys.length j hj] at hu
      injection hu with hu; subst hu
      obtain ⟨ae, q1, _, q2, _⟩ := R j hj
      injection q1 with q1; subst q1
      exact q2)
    (by rw [bV_ints]; exact intsOf_one _ _ _) (by unfold maxLen; omega) (by omega) hB
  have hpos : 0 < ys.length := by cases ys with
    | nil => exact absurd rfl hy
    | cons a l => simp
  obtain ⟨b, c, rfl⟩ : ∃ b c, v' = .slice (some ⟨b, 0, none⟩) (td.vce.length + ys.length) c := by
    rcases own.2 with ⟨_, h0⟩ | ⟨q, cap, cur, e, _⟩
    · omega
    · exact ⟨q, cap, e⟩
  have hcat : bV td.vce ++ bV ys = bV (td.vce ++ ys) := by unfold bV; rw [List.map_append]
  rw [hcat, ← List.length_append] at own
  have gne : ∀ q, vC.ownBlock = some q → g ≠ q := fun q hq e => by
    subst e
    obtain ⟨_, cc, hcc⟩ := own_has h.rc hq
    exact hcc.ne_ h.blk (by decide) rfl
  obtain ⟨hb6, k0⟩ := row_far (o := 4) (u := (.slice (some ⟨b, 0, none⟩) (td.vce.length + ys.length) c)) h.blk gb gne
  have hb5 := h.blk.grown gb (fun e => gne g e.symm rfl)
  have noG : ∀ {B' e s n q : Nat} {u : Value} {xs : List Value}, w.ownsRow B' e s u n xs → e ≠ 95 → u.ownBlock = some q → q ≠ g := fun o hne hq e => by
    subst e
    obtain ⟨_, cc, hcc⟩ := own_has o hq
    exact hcc.ne_ h.blk hne rfl
  have ne {q : Nat} : q ≠ g → vC.ownBlock ≠ some q → q ∉ g :: vC.ownBlock.toList := fun h1 h2 hm => by
    rcases List.mem_cons.1 hm with e | hm
    · exact h1 e
    · exact h2 (by simpa using hm)
  have hbg : b ≠ g := fun e => by
    subst e
    obtain ⟨_, cc, hcc⟩ := own_has own (q := b) rfl
    exact hcc.ne_ hb5 (by decide) rfl
  have own6 := own_kp own ((Kp.refl [g] w5).setCell (p := ⟨g, 4, none⟩) (Or.inl (by simp)) (.slice (some ⟨b, 0, none⟩) (td.vce.length + ys.length) c)) (fun q hq hm => by
    injection hq with hq; subst hq; exact hbg (by simpa using hm))
  have hv2 : ∀ {q : Nat}, b = q → vC.ownBlock = some q ∨ w.heap.size ≤ q := fun {q} e => by
    subst e
    rcases hv with e' | e'
    · exact Or.inl e'.symm
    · exact Or.inr (Nat.le_of_eq (Option.some.inj e').symm)
  have hL : ∀ x ∈ g :: vC.ownBlock.toList, x ∈ rtdL g vP vV vC vR vE := fun x hx => by
    rcases List.mem_cons.1 hx with rfl | hx
    · exact mem_rtdL.2 (Or.inl rfl)
    · have : vC.ownBlock = some x := by simpa using hx
      exact mem_rtdL.2 (by simp [this])
  refine ⟨b, c, w5, hrun, hb5.cell 4, hb5.frozen 4, {
    blk := hb6
    gB := h.gB
    rom := ⟨ps, e1, own_kp e2 k0 (fun q hq => ne (noG e2 (by decide) hq) (own_ne_own e2 h.rc (by decide) hq)), fun p hp => own_kp (e3 p hp) k0 (fun q hq => ne (noG (e3 p hp) (by decide) hq) (e4 p hp q hq).2.1), fun p hp q hq => ?_⟩
    rv := own_kp h.rv k0 (fun q hq => ne (noG h.rv (by decide) hq) ((h.d1 q hq).1))
    rc := by have e : (td.vce ++ ys).length = td.vce.length + ys.length := List.length_append; have h7 := own6; rw [e] at h7; show World.ownsRow _ B 5 1 _ (td.vce ++ ys).length (bV (td.vce ++ ys)); rw [e]; exact h7
    rr := own_kp h.rr k0 (fun q hq => ne (noG h.rr (by decide) hq) (fun hh => h.d2 q hh hq))
    re := own_kp h.re k0 (fun q hq => ne (noG h.re (by decide) hq) (own_ne_own h.re h.rc (by decide) hq))
    d1 := fun q hq => ?_
    d2 := fun q hq => ?_ }, k0.mono hL, fun x hx => ?_⟩
  · have hx := e4 p hp q hq
    have hlt := own_lt (e3 p hp) hq
    have hn' : Value.ownBlock (.slice (some ⟨b, 0, none⟩) (td.vce.length + ys.length) c) ≠ some q := fun e => by
      rcases hv2 (Option.some.inj e) with e2 | e2
      · exact hx.2.1 e2
      · omega
    exact ⟨hx.1, hn', hx.2.2⟩
  · have hlt := own_lt h.rv hq
    refine ⟨fun e => ?_, (h.d1 q hq).2⟩
    rcases hv2 (Option.some.inj e) with e2 | e2
    · exact (h.d1 q hq).1 e2
    · omega
  · rcases hv2 (Option.some.inj hq) with e2 | e2
    · exact h.d2 q e2
    · exact fun e3 => by have := own_lt h.rr e3; omega
  · rw [mem_rtdL] at hx ⊢
    rcases hx with e | e | e | e | e | e
    · exact Or.inl (by simp [e])
    · exact Or.inl (by simp [e])
    · exact Or.inl (by simp [e])
    · rcases hv2 (Option.some.inj e) with e | e
      · exact Or.inl (by simp [e])
      · exact Or.inr e
    · exact Or.inl (by simp [e])
    · exact Or.inl (by simp [e])
/-- Bytes behind the row of port. -/
theorem RTdH.addF2 {B g : Nat} {td : Td} {vP vV vC vR vE : Value} {w : World} (h : RTdH B g td vP vV vC vR vE w) {ad : Addr} {m' : Nat} {ys : List Int} (hy : ys ≠ []) (R : IRow w .u8 (some ad) ys.length (zL ys)) (hB : B ≤ w.heap.size) (hn : td.port.length + ys.length ≤ 1000000000000) :
    ∃ b c w5, (Builtin.append_ #[22, 22] 22 #[vR, .slice (some ad) ys.length m']).run Tryd.prog w = .ok (.slice (some ⟨b, 0, none⟩) (td.port.length + ys.length) c) w5 ∧
      w5.cell? ⟨g, 5, none⟩ = some vR ∧ w5.frozen? ⟨g, 5, none⟩ = false ∧
      RTdH B g { td with port := td.port ++ ys } vP vV vC (.slice (some ⟨b, 0, none⟩) (td.port.length + ys.length) c) vE (w5.setCell ⟨g, 5, none⟩ (.slice (some ⟨b, 0, none⟩) (td.port.length + ys.length) c)) ∧
      Kp (rtdL g vP vV vC vR vE) w (w5.setCell ⟨g, 5, none⟩ (.slice (some ⟨b, 0, none⟩) (td.port.length + ys.length) c)) ∧
      ∀ x ∈ rtdL g vP vV vC (.slice (some ⟨b, 0, none⟩) (td.port.length + ys.length) c) vE, x ∈ rtdL g vP vV vC vR vE ∨ w.heap.size ≤ x := by
  obtain ⟨ps, e1, e2, e3, e4⟩ := h.rom
  obtain ⟨i, hi, hzz⟩ := Option.map_eq_some_iff.1 u8_info'
  simp only [Prod.mk.injEq] at hzz
  obtain ⟨hz, hs, hb⟩ := hzz
  have hyl : (bV ys).length = ys.length := List.length_map _
  obtain ⟨v', w5, hrun, own, gb, _, hv⟩ := run_append_own_at (P := Tryd.prog) w B 22 22 5 i (.int .u8 0) 1 1 Tryd.underlying22 hi hz hs hb rfl (by omega) vR td.port.length (bV td.port) h.rr ad ys.length m' (bV ys) (by rw [hyl]; omega)
    (fun j u hu => by
      have hj : j < ys.length := by have := (List.getElem?_eq_some_iff.1 hu).1; rwa [hyl] at this
      rw [bV_ints, intsOf_at .u8 (zL ys) ys.length j hj] at hu
      injection hu with hu; subst hu
      obtain ⟨ae, q1, _, q2, _⟩ := R j hj
      injection q1 with q1; subst q1
      exact q2)
    (by rw [bV_ints]; exact intsOf_one _ _ _) (by unfold maxLen; omega) (by omega) hB
  have hpos : 0 < ys.length := by cases ys with
    | nil => exact absurd rfl hy
    | cons a l => simp
  obtain ⟨b, c, rfl⟩ : ∃ b c, v' = .slice (some ⟨b, 0, none⟩) (td.port.length + ys.length) c := by
    rcases own.2 with ⟨_, h0⟩ | ⟨q, cap, cur, e, _⟩
    · omega
    · exact ⟨q, cap, e⟩
  have hcat : bV td.port ++ bV ys = bV (td.port ++ ys) := by unfold bV; rw [List.map_append]
  rw [hcat, ← List.length_append] at own
  have gne : ∀ q, vR.ownBlock = some q → g ≠ q := fun q hq e => by
    subst e
    obtain ⟨_, cc, hcc⟩ := own_has h.rr hq
    exact hcc.ne_ h.blk (by decide) rfl
  obtain ⟨hb6, k0⟩ := row_far (o := 5) (u := (.slice (some ⟨b, 0, none⟩) (td.port.length + ys.length) c)) h.blk gb gne
  have hb5 := h.blk.grown gb (fun e => gne g e.symm rfl)
  have noG : ∀ {B' e s n q : Nat} {u : Value} {xs : List Value}, w.ownsRow B' e s u n xs → e ≠ 95 → u.ownBlock = some q → q ≠ g := fun o hne hq e => by
    subst e
    obtain ⟨_, cc, hcc⟩ := own_has o hq
    exact hcc.ne_ h.blk hne rfl
  have ne {q : Nat} : q ≠ g → vR.ownBlock ≠ some q → q ∉ g :: vR.ownBlock.toList := fun h1 h2 hm => by
    rcases List.mem_cons.1 hm with e | hm
    · exact h1 e
    · exact h2 (by simpa using hm)
  have hbg : b ≠ g := fun e => by
    subst e
    obtain ⟨_, cc, hcc⟩ := own_has own (q := b) rfl
    exact hcc.ne_ hb5 (by decide) rfl
  have own6 := own_kp own ((Kp.refl [g] w5).setCell (p := ⟨g, 5, none⟩) (Or.inl (by simp)) (.slice (some ⟨b, 0, none⟩) (td.port.length + ys.length) c)) (fun q hq hm => by
    injection hq with hq; subst hq; exact hbg (by simpa using hm))
  have hv2 : ∀ {q : Nat}, b = q → vR.ownBlock = some q ∨ w.heap.size ≤ q := fun {q} e => by
    subst e
    rcases hv with e' | e'
    · exact Or.inl e'.symm
    · exact Or.inr (Nat.le_of_eq (Option.some.inj e').symm)
  have hL : ∀ x ∈ g :: vR.ownBlock.toList, x ∈ rtdL g vP vV vC vR vE := fun x hx => by
    rcases List.mem_cons.1 hx with rfl | hx
    · exact mem_rtdL.2 (Or.inl rfl)
    · have : vR.ownBlock = some x := by simpa using hx
      exact mem_rtdL.2 (by simp [this])
  refine ⟨b, c, w5, hrun, hb5.cell 5, hb5.frozen 5, {
    blk := hb6
    gB := h.gB
    rom := ⟨ps, e1, own_kp e2 k0 (fun q hq => ne (noG e2 (by decide) hq) (own_ne_own e2 h.rr (by decide) hq)), fun p hp => own_kp (e3 p hp) k0 (fun q hq => ne (noG (e3 p hp) (by decide) hq) (e4 p hp q hq).2.2), fun p hp q hq => ?_⟩
    rv := own_kp h.rv k0 (fun q hq => ne (noG h.rv (by decide) hq) ((h.d1 q hq).2))
    rc := own_kp h.rc k0 (fun q hq => ne (noG h.rc (by decide) hq) (h.d2 q hq))
    rr := by have e : (td.port ++ ys).length = td.port.length + ys.length := List.length_append; have h7 := own6; rw [e] at h7; show World.ownsRow _ B 5 1 _ (td.port ++ ys).length (bV (td.port ++ ys)); rw [e]; exact h7
    re := own_kp h.re k0 (fun q hq => ne (noG h.re (by decide) hq) (own_ne_own h.re h.rr (by decide) hq))
    d1 := fun q hq => ?_
    d2 := fun q hq => ?_ }, k0.mono hL, fun x hx => ?_⟩
  · have hx := e4 p hp q hq
    have hlt := own_lt (e3 p hp) hq
    have hn' : Value.ownBlock (.slice (some ⟨b, 0, none⟩) (td.port.length + ys.length) c) ≠ some q := fun e => by
      rcases hv2 (Option.some.inj e) with e2 | e2
      · exact hx.2.2 e2
      · omega
    exact ⟨hx.1, hx.2.1, hn'⟩
  · have hlt := own_lt h.rv hq
    refine ⟨(h.d1 q hq).1, fun e => ?_⟩
    rcases hv2 (Option.some.inj e) with e2 | e2
    · exact (h.d1 q hq).2 e2
    · omega
  · have hlt := own_lt h.rc hq
    intro e
    rcases hv2 (Option.some.inj e) with e2 | e2
    · exact h.d2 q hq e2
    · omega
  · rw [mem_rtdL] at hx ⊢
    rcases hx with e | e | e | e | e | e
    · exact Or.inl (by simp [e])
    · exact Or.inl (by simp [e])
    · exact Or.inl (by simp [e])
    · exact Or.inl (by simp [e])
    · rcases hv2 (Option.some.inj e) with e | e
      · exact Or.inl (by simp [e])
      · exact Or.inr e
    · exact Or.inl (by simp [e])
end Go.Proofs.YtnhnphifhkkboaaDoor
namespace Go.Proofs.YtnhnphifhkkboaaDoor
open Go.RowKit Go.Shelf
set_option linter.unusedVariables false
set_option linter.unusedSimpArgs false
set_option maxRecDepth 100000
/-- A script, plain. -/
structure Ps where
  n : Nat
  z : Nat → Int
  vdc : List Int
  vce : List Int
  port : List Int
  edges : List Iib
  bud : Int
theorem sizeS : (Tryd.prog.info? 27).map (·.size) = some 6 := by kernel_rfl
def sv0 : Sv := ⟨none, 0, 0, none, 0, 0, none, 0, 0, none, 0, 0, none, 0, 0, 0⟩
def SlZ (w : World) (A : Option Addr) (n c N : Nat) (z : Nat → Int) : Prop := n = N ∧ n ≤ c ∧ c ≤ maxLen ∧ IRow w .u8 A n z ∧ Typed w A 5 ∧ (A = none → n = 0 ∧ c = 0)
def SlE (w : World) (A : Option Addr) (n c : Nat) (l : List Iib) : Prop := n = l.length ∧ n ≤ c ∧ c ≤ maxLen ∧ ERow w A n (eL l) ∧ Typed w A 31 ∧ (A = none → n = 0 ∧ c = 0)
/-- A script by value is this one. -/
structure ScrV (w : World) (s : Sv) (P : Ps) : Prop where
  rom : SlZ w s.A s.n s.ca P.n P.z
  vdc : SlZ w s.V s.a s.cv P.vdc.length (zL P.vdc)
  vce : SlZ w s.C s.b s.cc P.vce.length (zL P.vce)
  port : SlZ w s.R s.c s.cr P.port.length (zL P.port)
  edges : SlE w s.E s.m s.ce P.edges
  bud : s.bud = P.bud
theorem SlZ.keep {w w' : World} {A : Option Addr} {n c N : Nat} {z : Nat → Int} (h : SlZ w A n c N z) (hb : Below w.heap.size w w') : SlZ w' A n c N z := ⟨h.1, h.2.1, h.2.2.1, h.2.2.2.1.keep hb, h.2.2.2.2.1.kp (Kp.of_below (L := []) hb) (by simp), h.2.2.2.2.2⟩
theorem SlE.keep {w w' : World} {A : Option Addr} {n c : Nat} {l : List Iib} (h : SlE w A n c l) (hb : Below w.heap.size w w') : SlE w' A n c l := ⟨h.1, h.2.1, h.2.2.1, h.2.2.2.1.keep hb, h.2.2.2.2.1.kp (Kp.of_below (L := []) hb) (by simp), h.2.2.2.2.2⟩
theorem ScrV.keep {w w' : World} {s : Sv} {P : Ps} (h : ScrV w s P) (hb : Below w.heap.size w w') : ScrV w' s P := ⟨h.rom.keep hb, h.vdc.keep hb, h.vce.keep hb, h.port.keep hb, h.edges.keep hb, h.bud⟩
theorem SlZ.kp {w w' : World} {L : List Nat} {A : Option Addr} {n c N : Nat} {z : Nat → Int} (h : SlZ w A n c N z) (k : Kp L w w') (hL : ∀ x ∈ L, ∃ T cs, Blk w x T cs ∧ T ≠ 5) : SlZ w' A n c N z := by
  have off := h.2.2.2.2.1.off (fun x hx => by obtain ⟨T, cs, hb, hne⟩ := hL x hx; exact ⟨T, cs, hb, hne.symm⟩)
  exact ⟨h.1, h.2.1, h.2.2.1, h.2.2.2.1.kp k off, h.2.2.2.2.1.kp k off, h.2.2.2.2.2⟩
theorem SlE.kp {w w' : World} {L : List Nat} {A : Option Addr} {n c : Nat} {l : List Iib} (h : SlE w A n c l) (k : Kp L w w') (hL : ∀ x ∈ L, ∃ T cs, Blk w x T cs ∧ T ≠ 31) : SlE w' A n c l := by
  have off := h.2.2.2.2.1.off (fun x hx => by obtain ⟨T, cs, hb, hne⟩ := hL x hx; exact ⟨T, cs, hb, hne.symm⟩)
  exact ⟨h.1, h.2.1, h.2.2.1, FRow.kp h.2.2.2.1 k off, h.2.2.2.2.1.kp k off, h.2.2.2.2.2⟩
theorem ScrV.kp {w w' : World} {L : List Nat} {s : Sv} {P : Ps} (h : ScrV w s P) (k : Kp L w w') (hL : ∀ x ∈ L, ∃ T cs, Blk w x T cs ∧ T ≠ 5 ∧ T ≠ 31) : ScrV w' s P := by
  have h1 : ∀ x ∈ L, ∃ T cs, Blk w x T cs ∧ T ≠ 5 := fun x hx => by obtain ⟨T, cs, a, b, c⟩ := hL x hx; exact ⟨T, cs, a, b⟩
  have h2 : ∀ x ∈ L, ∃ T cs, Blk w x T cs ∧ T ≠ 31 := fun x hx => by obtain ⟨T, cs, a, b, c⟩ := hL x hx; exact ⟨T, cs, a, c⟩
  exact ⟨h.rom.kp k h1, h.vdc.kp k h1, h.vce.kp k h1, h.port.kp k h1, h.edges.kp k h2, h.bud⟩
def goodB (S : Int) (L : List (Int × List Int)) : Bool := L.all fun x => decide (0 ≤ x.1 ∧ (x.2.length : Int) ≤ S - x.1)
theorem goodB_iff (S : Int) (L : List (Int × List Int)) : goodB S L = true ↔ ∀ i, i < L.length → good S (pL L i) := by
  unfold goodB
  rw [List.all_eq_true]
  constructor
  · intro h i hi
    have := h L[i] (List.getElem_mem hi)
    simp only [decide_eq_true_eq] at this
    have e : L.getD i (0, []) = L[i] := by simp [List.getD, hi]
    unfold good pL
    rw [e]; exact this
  · intro h x hx
    obtain ⟨i, hi, rfl⟩ := List.getElem_of_mem hx
    have := h i hi
    have e : L.getD i (0, []) = L[i] := by simp [List.getD, hi]
    unfold good pL at this
    rw [e] at this
    simp only [decide_eq_true_eq]; exact this
/-- What is wrong with what was told, or 0. -/
def scrE (td : Td) : Int := match td.pg, td.bg with
  | some pg, some bg => if goodB (pg * 8192) td.rom then (chkS (pg * 8192).toNat td.vdc.length td.vce.length td.port.length (eL td.edges) td.edges.length bg).1 else 1
  | _, _ => 5
def psT (td : Td) : Ps := ⟨((td.pg.getD 0) * 8192).toNat, laid (pL td.rom) td.rom.length, td.vdc, td.vce, td.port, td.edges, td.bg.getD 0⟩
/-- What a call that puts it together gives. -/
def ScrR (E : Int) (P : Ps) (w : World) (e : Ending) (w' : World) : Prop :=
  Below w.heap.size w w' ∧ ((E ≠ 0 ∧ e = .returned (.tuple #[.agg sv0.cs, .int .i64 E])) ∨ (E = 0 ∧ ∃ s, e = .returned (.tuple #[.agg s.cs, .int .i64 0]) ∧ ScrV w' s P ∧ SvOk s))
theorem row_pieces {w : World} {B : Nat} {vP : Value} {ps : List (Int × Value × List Int)} (h1 : w.ownsRow B 108 2 vP ps.length (ps.flatMap pcC)) (h2 : ∀ p ∈ ps, w.ownsRow B 5 1 p.2.1 p.2.2.length (bV p.2.2)) (h3 : ∀ p ∈ ps, 0 ≤ p.1 ∧ p.1 ≤ 16777215 ∧ ByB p.2.2) :
    ∃ A cap qs, vP = .slice A ps.length cap ∧ ps.length ≤ cap ∧ cap ≤ maxLen ∧ PRow w A ps.length qs ∧ ∀ k, k < ps.length → (qs k).at_ = (pL (ps.map fun p => (p.1, p.2.2)) k).at_ ∧ (qs k).n = (pL (ps.map fun p => (p.1, p.2.2)) k).n ∧ (qs k).z = (pL (ps.map fun p => (p.1, p.2.2)) k).z := by
  obtain ⟨A, cap, e1, e2, e3, e4, _, _, _⟩ := own_list pcC (fun x => rfl) h1
  have key : ∀ k : Nat, ∃ q : Pc, ∀ p : Int × Value × List Int, ps[k]? = some p → q.at_ = p.1 ∧ q.n = p.2.2.length ∧ q.z = zL p.2.2 ∧ p.2.1 = .slice q.A q.n q.c ∧ PcOk w q := fun k => by
    cases hk : ps[k]? with
    | none => exact ⟨⟨0, none, 0, 0, fun _ => 0⟩, fun p hp => by cases hp⟩
    | some p =>
      have hm := List.mem_of_getElem? hk
      obtain ⟨A', c', f1, f2, f3, f4, _, _, _⟩ := row_bytes (h2 p hm) (h3 p hm).2.2
      refine ⟨⟨p.1, A', p.2.2.length, c', zL p.2.2⟩, fun p' hp => ?_⟩
      injection hp with hp; subst hp
      exact ⟨rfl, rfl, rfl, f1, WalkArith.wf_i64 (by have := h3 p hm; show -9223372036854775808 ≤ p.1 ∧ p.1 ≤ 9223372036854775807; omega), f2, f3, f4⟩
  refine ⟨A, cap, fun k => (key k).choose, e1, e2, e3, fun i hi => ?_, fun k hk => ?_⟩
  · have hp : ps[i]? = some ps[i] := List.getElem?_eq_getElem hi
    obtain ⟨g1, g2, g3, g4, g5⟩ := (key i).choose_spec _ hp
    obtain ⟨ad, d1, d2, d3⟩ := e4 i _ hp
    refine ⟨ad, d1, d2, ?_, ?_, g5⟩
    · have := d3 0 (by decide)
      rw [Nat.add_zero] at this
      rw [this, g1]; rfl
    · have := d3 1 (by decide)
      rw [this, ← g4]; rfl
  · have hp : ps[k]? = some ps[k] := List.getElem?_eq_getElem hk
    obtain ⟨g1, g2, g3, g4, g5⟩ := (key k).choose_spec _ hp
    have e : (ps.map fun p => (p.1, p.2.2)).getD k (0, []) = (ps[k].1, ps[k].2.2) := by simp [List.getD, hk]
    unfold pL
    rw [e]
    exact ⟨g1, g2, g3⟩
/-- A script's block, written whole. -/
theorem zero_six {B r : Nat} {a w : World} {c0 c1 c2 c3 c4 c5 : Value} (h : Blk w r 27 #[c0, c1, c2, c3, c4, c5]) (hb : Below B a w) (hle : B ≤ r) (v0 v1 v2 v3 v4 v5 : Value) :
    Below B a ((((((w.setCell ⟨r, 0, none⟩ v0).setCell ⟨r, 1, none⟩ v1).setCell ⟨r, 2, none⟩ v2).setCell ⟨r, 3, none⟩ v3).setCell ⟨r, 4, none⟩ v4).setCell ⟨r, 5, none⟩ v5) ∧
    Blk ((((((w.setCell ⟨r, 0, none⟩ v0).setCell ⟨r, 1, none⟩ v1).setCell ⟨r, 2, none⟩ v2).setCell ⟨r, 3, none⟩ v3).setCell ⟨r, 4, none⟩ v4).setCell ⟨r, 5, none⟩ v5) r 27 #[v0, v1, v2, v3, v4, v5] :=
  ⟨(((((hb.setCell (p := ⟨r, 0, none⟩) hle _).setCell (p := ⟨r, 1, none⟩) hle _).setCell (p := ⟨r, 2, none⟩) hle _).setCell (p := ⟨r, 3, none⟩) hle _).setCell (p := ⟨r, 4, none⟩) hle _).setCell (p := ⟨r, 5, none⟩) hle _,
    (((((h.set_ 0 _).set_ 1 _).set_ 2 _).set_ 3 _).set_ 4 _).set_ 5 _⟩
theorem below_drew_ {B : Nat} {a w : World} (h : Below B a w) : Below B a w.drew := ⟨h.os, h.tape, h.output, h.size, h.block⟩
theorem chkS_zero (n a b c : Nat) (es : Nat → Iib) (m : Nat) (bud : Int) (h : (chkS n a b c es m bud).1 = 0) : (chkS n a b c es m bud).2 = 0 := by
  unfold chkS at h ⊢
  split at h
  · simp at h
  · rename_i h1; rw [if_neg h1]
    split at h
    · simp at h
    · rename_i h2; rw [if_neg h2]
      split at h
      · rename_i h3; exact absurd h h3
      · rename_i h3; rw [if_neg h3]
        split at h
        · simp at h
        · rename_i h4; rw [if_neg h4]
set_option maxHeartbeats 16000000 in
theorem scscript_any {B g mb p : Nat} {td : Td} {vP vV vC vR vE : Value} {w : World} (h : TdH B g mb td vP vV vC vR vE w) (hW : TdW td) (hp : TdOk p td) (hp1 : p ≤ 100000000000) :
    Calls Tryd.prog 51 #[.pointer (some ⟨g, 0, none⟩)] w fun e w' => ScrR (scrE td) (psT td) w e w' := by
  obtain ⟨EE, hEE⟩ : ∃ E, scrE td = E := ⟨_, rfl⟩
  obtain ⟨PP, hPP⟩ : ∃ P, psT td = P := ⟨_, rfl⟩
  rw [hEE, hPP]
  have HEE := Lib.hid hEE
  have HPP := Lib.hid hPP
  clear hEE hPP
  have h1 := h.below ((Below.refl _ w).alloc (Nat.le_refl _) (.cells sv0.cs 27))
  obtain ⟨D, hD, hM⟩ := h1.map
  have z1 : Blk (w.alloc (.cells sv0.cs 27)) w.heap.size 27 sv0.cs := Blk.new _ _ _
  have B1 : Below w.heap.size w (w.alloc (.cells sv0.cs 27)) := (Below.refl _ w).alloc (Nat.le_refl _) _
  obtain ⟨v1, q1, hlk1, hR1⟩ := hD.look_ok skeyed Tryd.underlying81 (zero_i64 _) (zd := .held (.int .i64 0)) (zp := []) rfl pgkey
  obtain ⟨v2, q2, hlk2, hR2⟩ := hD.look_ok skeyed Tryd.underlying81 (zero_i64 _) (zd := .held (.int .i64 0)) (zp := []) rfl bgkey
  rw [hM.1] at hR1
  rw [hM.2.1] at hlk1
  rw [hM.2.2.1] at hR2
  rw [hM.2.2.2.1] at hlk2
  simp only [SH, Option.some.injEq, Prod.mk.injEq, DataW.held.injEq] at hR1 hR2
  rw [hR1.1] at hlk1
  rw [hR2.1] at hlk2
  have c0 : (w.alloc (.cells sv0.cs 27)).cell? ⟨g, 0, none⟩ = some (.map (some mb)) := h1.blk.cell 0
  unfold pgK at hlk1
  unfold bgK at hlk2
  have HH := Lib.hid h1
  clear hD hM hR1 hR2 h1
  go_enter Tryd.func51, Tryd.ntmps51
  go_upto_region 1 with fail
  obtain ⟨r, hr⟩ : ∃ r, w.heap.size = r := ⟨_, rfl⟩
  generalize hw1 : World.alloc w _ = w1
  have hw2 : w.alloc (.cells sv0.cs 27) = w1 := hw1
  rw [hw2] at hlk1 hlk2 c0 HH z1 B1
  rw [hr] at z1 B1 ⊢
  clear hw1 hw2
  have d0 : w1.cell? ⟨r, 0, none⟩ = some (.slice none 0 0) := z1.cell 0
  have d1 : w1.cell? ⟨r, 1, none⟩ = some (.slice none 0 0) := z1.cell 1
  have d2 : w1.cell? ⟨r, 2, none⟩ = some (.slice none 0 0) := z1.cell 2
  have d3 : w1.cell? ⟨r, 3, none⟩ = some (.slice none 0 0) := z1.cell 3
  have d4 : w1.cell? ⟨r, 4, none⟩ = some (.slice none 0 0) := z1.cell 4
  have d5 : w1.cell? ⟨r, 5, none⟩ = some (.int .i64 0) := z1.cell 5
  have y0 : w1.frozen? ⟨r, 0, none⟩ = false := z1.frozen 0
  have y1 : w1.frozen? ⟨r, 1, none⟩ = false := z1.frozen 1
  have y2 : w1.frozen? ⟨r, 2, none⟩ = false := z1.frozen 2
  have y3 : w1.frozen? ⟨r, 3, none⟩ = false := z1.frozen 3
  have y4 : w1.frozen? ⟨r, 4, none⟩ = false := z1.frozen 4
  have y5 : w1.frozen? ⟨r, 5, none⟩ = false := z1.frozen 5
  have Z1 := Lib.hid z1
  have HB1 := Lib.hid B1
  have HRR := Lib.hid hr
  have HB1' : Hid (Below w.heap.size w w1) := Lib.hid (by rw [hr]; exact B1)
  have HRL : Hid (w.heap.size ≤ r) := Lib.hid (Nat.le_of_eq hr)
  clear z1 B1 hr
  have lookE : ∀ (n : Int) (b : Bool), (Value.tuple #[.int .i64 n, .bool b]) = .tuple #[.int .i64 n, .bool b] := fun _ _ => rfl
  clear lookE
  by_cases hno : td.pg = none ∨ td.bg = none
  · have hE : EE = 5 := by
      rw [← HEE.out]
      unfold scrE
      rcases hno with e | e
      · rw [e]
      · rw [e]; cases td.pg <;> rfl
    subst hE
    have FIN : ∀ (w' : World), w' = (((((w1.setCell ⟨r, 0, none⟩ (.slice none 0 0)).setCell ⟨r, 1, none⟩ (.slice none 0 0)).setCell ⟨r, 2, none⟩ (.slice none 0 0)).setCell ⟨r, 3, none⟩ (.slice none 0 0)).setCell ⟨r, 4, none⟩ (.slice none 0 0)).setCell ⟨r, 5, none⟩ (.int .i64 0) →
        Below w.heap.size w w' ∧ Blk w' r 27 #[.slice none 0 0, .slice none 0 0, .slice none 0 0, .slice none 0 0, .slice none 0 0, .int .i64 0] := fun w' hw' => by
      subst hw'
      have hle : w.heap.size ≤ r := Nat.le_of_eq HRR.out
      have b := HB1.out
      rw [← HRR.out] at b
      exact ⟨(((((b.setCell (p := ⟨r, 0, none⟩) hle _).setCell (p := ⟨r, 1, none⟩) hle _).setCell (p := ⟨r, 2, none⟩) hle _).setCell (p := ⟨r, 3, none⟩) hle _).setCell (p := ⟨r, 4, none⟩) hle _).setCell (p := ⟨r, 5, none⟩) hle _,
        (((((Z1.out.set_ 0 _).set_ 1 _).set_ 2 _).set_ 3 _).set_ 4 _).set_ 5 _⟩
    have HFIN := Lib.hid FIN
    clear FIN HEE HPP
    cases hpg : td.pg with
    | none =>
      rw [hpg] at hlk1
      simp only [Option.isSome_none, Option.getD_none] at hlk1
      obtain ⟨b2, hb2⟩ : ∃ b, td.bg.isSome = b := ⟨_, rfl⟩
      obtain ⟨n2, hn2⟩ : ∃ n, td.bg.getD 0 = n := ⟨_, rfl⟩
      rw [hb2, hn2] at hlk2
      clear hno hb2 hn2 hpg hW hp HH
      go_wp2_with fail
      all_goals (
        (try simp only [Exit.inBlock, Exit.then])
        have hf := HFIN.out _ rfl
        refine bodyPost_ret (results_cell_tmp (a := ⟨r, 0, none⟩) Tryd.results51 (by rfl) (hf.2.run_load (P := Tryd.prog) Tryd.underlying27 rfl sizeS) rfl) rfl ?_
        exact ⟨hf.1, Or.inl ⟨by decide, rfl⟩⟩)
    | some n =>
      have hbg : td.bg = none := by rcases hno with e | e; rw [hpg] at e; cases e; exact e
      rw [hpg] at hlk1
      rw [hbg] at hlk2
      simp only [Option.isSome_some, Option.getD_some] at hlk1
      simp only [Option.isSome_none, Option.getD_none] at hlk2
      clear hno hbg hpg hW hp HH
      go_wp2_with fail
      all_goals (
        (try simp only [Exit.inBlock, Exit.then])
        have hf := HFIN.out _ rfl
        refine bodyPost_ret (results_cell_tmp (a := ⟨r, 0, none⟩) Tryd.results51 (by rfl) (hf.2.run_load (P := Tryd.prog) Tryd.underlying27 rfl sizeS) rfl) rfl ?_
        exact ⟨hf.1, Or.inl ⟨by decide, rfl⟩⟩)
  · obtain ⟨pg, hpg⟩ : ∃ n, td.pg = some n := by
      cases hh : td.pg with
      | none => exact absurd (Or.inl hh) hno
      | some n => exact ⟨n, rfl⟩
    obtain ⟨bg, hbg⟩ : ∃ n, td.bg = some n := by
      cases hh : td.bg with
      | none => exact absurd (Or.inr hh) hno
      | some n => exact ⟨n, rfl⟩
    rw [hpg] at hlk1
    rw [hbg] at hlk2
    simp only [Option.isSome_some, Option.getD_some] at hlk1 hlk2
    have hpgb := hW.pg pg hpg
    have hbgb := hW.bg bg hbg
    have hmay : mayB pg = true := decide_eq_true hpgb
    obtain ⟨S, hS⟩ : ∃ S : Nat, (S : Int) = pg * 8192 := ⟨(pg * 8192).toNat, by omega⟩
    have hS1 : S ≤ 1048576 := by omega
    have hEE2 : EE = if goodB S td.rom then (chkS S td.vdc.length td.vce.length td.port.length (eL td.edges) td.edges.length bg).1 else 1 := by
      rw [← HEE.out]; unfold scrE; rw [hpg, hbg]; simp only [← hS, Int.toNat_natCast]
    have hPP2 : PP = ⟨S, laid (pL td.rom) td.rom.length, td.vdc, td.vce, td.port, td.edges, bg⟩ := by
      rw [← HPP.out]; unfold psT; rw [hpg, hbg]; simp only [Option.getD_some, ← hS, Int.toNat_natCast]
    obtain ⟨ps, e1, e2, e3, e4⟩ := HH.out.rom
    obtain ⟨A, cap, qs, rfl, f1, f2, f3, f4⟩ := row_pieces e2 e3 (fun q hq => by
      have := hW.rom (q.1, q.2.2) (by rw [e1]; exact List.mem_map.2 ⟨q, hq, rfl⟩)
      exact ⟨this.1, this.2.1, this.2.2.1⟩)
    rw [← e1] at f4
    have hml : td.rom.length = ps.length := by rw [e1, List.length_map]
    have hmm : ps.length ≤ maxLen := Nat.le_trans f1 f2
    have HMK := Lib.hid (make_any pg S A ps.length cap qs w1 hmay hS hmm f3)
    have HGOOD : Hid (∀ i, i < ps.length → (good S (qs i) ↔ good S (pL td.rom i))) := Lib.hid fun i hi => good_congr (f4 i hi).1 (f4 i hi).2.1
    have HLAID : Hid (∀ i, laid qs ps.length i = laid (pL td.rom) td.rom.length i) := Lib.hid fun i => by rw [hml]; exact laid_congr _ _ (fun k hk => f4 k hk)
    have HML := Lib.hid hml
    have HE2 := Lib.hid hEE2
    have HP2 := Lib.hid hPP2
    have HWW := Lib.hid (And.intro hW hp)
    have c1 : w1.cell? ⟨g, 1, none⟩ = some (.slice A ps.length cap) := HH.out.blk.cell 1
    have ipg : IntKind.i64.wrap pg = pg := IntWalk.i64_in _ (by omega)
    obtain ⟨mm, hmm2⟩ : ∃ m, ps.length = m := ⟨_, rfl⟩
    have HMM := Lib.hid hmm2
    rw [hmm2] at HMK c1
    clear hno hmay hEE2 hPP2 e1 e2 e3 e4 f1 f2 f3 f4 hml hmm hW hp HEE HPP hpg hbg h hmm2
    go_wp2_with fail
    refine HMK.out.mono ?_
    rintro e w2 ⟨b2, ⟨j, hj, hbad, hbef, rfl⟩ | ⟨hgood, gM, CM, rfl, hgM, hbM, hAM⟩⟩
    · skip
      have hE1 : EE = 1 := by
        rw [HE2.out, if_neg]
        rw [goodB_iff]
        intro hall
        have hjj : j < ps.length := by have := HMM.out; omega
        exact hbad ((HGOOD.out j hjj).2 (hall j (by have := HML.out; omega)))
      have Z2 := Z1.out.below b2 Z1.out.lt
      have B2 : Below w.heap.size w w2 := HB1'.out.trans (b2.mono HB1'.out.size)
      have hle := HRL.out
      have Z3 := Lib.hid (Z2.alloc (.cells #[.int .i64 1, .int .i64 (j : Int)] 34))
      have X3 : Hid (Blk (w2.alloc (.cells #[.int .i64 1, .int .i64 (j : Int)] 34)) w2.heap.size 34 #[.int .i64 1, .int .i64 (j : Int)]) := Lib.hid (Blk.new _ _ _)
      have B3 := Lib.hid (B2.alloc B2.size (.cells #[.int .i64 1, .int .i64 (j : Int)] 34))
      have hne : w2.heap.size ≠ r := fun e => by have := Z2.lt; omega
      have HNE := Lib.hid hne
      clear b2 hbad hbef HMK hne Z2 B2 c0 c1 d0 d1 d2 d3 d4 d5 y0 y1 y2 y3 y4 y5 hlk1 hlk2
      subst hE1
      go_upto_region 7 with fail
      generalize hw3 : World.alloc w2 _ = w3
      have hw4 : w2.alloc (.cells #[.int .i64 1, .int .i64 (j : Int)] 34) = w3 := hw3
      rw [hw4] at Z3 X3 B3
      obtain ⟨gx, hgx⟩ : ∃ x, w2.heap.size = x := ⟨_, rfl⟩
      rw [hgx] at X3 HNE ⊢
      have hne := HNE.out
      clear hw3 hw4 hgx
      refine rg_begin (S := fun w' => w'.cell? ⟨gx, 0, none⟩ = some (.int .i64 (1))) 5 #[false, false, false, false, false] (by kernel_rfl) (by kernel_rfl) (by kernel_rfl) ?_ (fun hHeld => ?_)
      · exact X3.out.cell 0
      have ZD := Lib.hid (Z3.out.kp (Kp.refl [] _).drew (by simp))
      have XD := Lib.hid (X3.out.kp (Kp.refl [] _).drew (by simp))
      have BD := Lib.hid (below_drew_ B3.out)
      clear Z3 X3 B3
      generalize World.drew w3 = wD at *
      have d0 : wD.cell? ⟨r, 0, none⟩ = some (.slice none 0 0) := ZD.out.cell 0
      have y0 : wD.frozen? ⟨r, 0, none⟩ = false := ZD.out.frozen 0
      have d1 : wD.cell? ⟨r, 1, none⟩ = some (.slice none 0 0) := ZD.out.cell 1
      have y1 : wD.frozen? ⟨r, 1, none⟩ = false := ZD.out.frozen 1
      have d2 : wD.cell? ⟨r, 2, none⟩ = some (.slice none 0 0) := ZD.out.cell 2
      have y2 : wD.frozen? ⟨r, 2, none⟩ = false := ZD.out.frozen 2
      have d3 : wD.cell? ⟨r, 3, none⟩ = some (.slice none 0 0) := ZD.out.cell 3
      have y3 : wD.frozen? ⟨r, 3, none⟩ = false := ZD.out.frozen 3
      have d4 : wD.cell? ⟨r, 4, none⟩ = some (.slice none 0 0) := ZD.out.cell 4
      have y4 : wD.frozen? ⟨r, 4, none⟩ = false := ZD.out.frozen 4
      have d5 : wD.cell? ⟨r, 5, none⟩ = some (.int .i64 0) := ZD.out.cell 5
      have y5 : wD.frozen? ⟨r, 5, none⟩ = false := ZD.out.frozen 5
      refine rg_take (i := 0) (d := some 47) (l := #[true, false, false, false, false]) (fuel := 4) (v := ?_) rfl (by kernel_rfl) (by kernel_rfl) (by kernel_rfl) (by kernel_rfl) (by kernel_rfl) (fun _ _ _ h => h) (by kernel_rfl) ?_ (by assumption) ?_
      rotate_left 1
      · (intro wS hSw; (try dsimp only at hSw); go_simp; try with_reducible rfl)
      try simp only [Act.put, List.setIfInBounds_toArray, List.set_cons_zero, List.set_cons_succ]
      refine rg_take (i := 1) (d := some 48) (l := #[true, true, false, false, false]) (fuel := 3) (v := ?_) rfl (by kernel_rfl) (by kernel_rfl) (by kernel_rfl) (by kernel_rfl) (by kernel_rfl) (fun _ _ _ h => h) (by kernel_rfl) ?_ (by assumption) ?_
      rotate_left 1
      · (intro wS hSw; (try dsimp only at hSw); go_simp; try with_reducible rfl)
      try simp only [Act.put, List.setIfInBounds_toArray, List.set_cons_zero, List.set_cons_succ]
      refine rg_take (i := 2) (d := some 49) (l := #[true, true, true, false, false]) (fuel := 2) (v := ?_) rfl (by kernel_rfl) (by kernel_rfl) (by kernel_rfl) (by kernel_rfl) (by kernel_rfl) (fun _ _ _ h => h) (by kernel_rfl) ?_ (by assumption) ?_
      rotate_left 1
      · (intro wS hSw; (try dsimp only at hSw); go_simp; try with_reducible rfl)
      try simp only [Act.put, List.setIfInBounds_toArray, List.set_cons_zero, List.set_cons_succ]
      refine rg_next (i := 3) (l := #[true, true, true, true, false]) (fuel := 1) (by kernel_rfl) rfl (by kernel_rfl) (by kernel_rfl) (fun K hK => ?_)
      go_simp
      skip
      first | (refine hK.out _ _ ?_ (fun hHeld => ?_)) | (go_wp2_with fail; refine hK.out _ _ ?_ (fun hHeld => ?_))
      · (try dsimp only); exact (((((((XD.out.far (p := ⟨r, 0, none⟩) hne _).far (p := ⟨r, 1, none⟩) hne _).far (p := ⟨r, 2, none⟩) hne _).far (p := ⟨r, 3, none⟩) hne _).far (p := ⟨r, 4, none⟩) hne _).far (p := ⟨r, 5, none⟩) hne _).cell 0)
      clear hK K
      try simp only [Act.put, List.setIfInBounds_toArray, List.set_cons_zero, List.set_cons_succ]
      refine rg_take (i := 4) (d := some 3) (l := #[true, true, true, true, true]) (fuel := 0) (v := ?_) rfl (by kernel_rfl) (by kernel_rfl) (by kernel_rfl) (by kernel_rfl) (by kernel_rfl) (fun _ _ _ h => h) (by kernel_rfl) ?_ (by assumption) ?_
      rotate_left 1
      · (intro wS hSw; (try dsimp only at hSw); go_simp; try with_reducible rfl)
      try simp only [Act.put, List.setIfInBounds_toArray, List.set_cons_zero, List.set_cons_succ]
      refine wpAnyH_done (by kernel_rfl) ?_ _
      go_wp2_with fail
      (try simp only [Exit.inBlock, Exit.then])
      have hf := zero_six ZD.out BD.out hle (.slice none 0 0) (.slice none 0 0) (.slice none 0 0) (.slice none 0 0) (.slice none 0 0) (.int .i64 0)
      refine bodyPost_ret (results_cell_tmp (a := ⟨r, 0, none⟩) Tryd.results51 (by rfl) (hf.2.run_load (P := Tryd.prog) Tryd.underlying27 rfl sizeS) rfl) rfl ?_
      exact ⟨hf.1, Or.inl ⟨by decide, rfl⟩⟩
    · have hg1 : goodB S td.rom = true := by
        rw [goodB_iff]
        intro i hi
        have hi' : i < ps.length := by have := HML.out; omega
        exact (HGOOD.out i hi').1 (hgood i (by have := HMM.out; omega))
      have hE2 : EE = (chkS S td.vdc.length td.vce.length td.port.length (eL td.edges) td.edges.length bg).1 := by rw [HE2.out, if_pos hg1]
      have H2 := HH.out.below b2
      obtain ⟨AV, kV, rfl, v1, v2, v3, v4, v5, v6⟩ := row_bytes H2.rv HWW.out.1.vdc
      obtain ⟨AC, kC, rfl, x1, x2, x3, x4, x5, x6⟩ := row_bytes H2.rc HWW.out.1.vce
      obtain ⟨AR, kR, rfl, p1, p2, p3, p4, p5, p6⟩ := row_bytes H2.rr HWW.out.1.port
      obtain ⟨AE, kE, rfl, g1, g2, g3, g4, g5, g6⟩ := row_edges H2.re
      have SVok : SvOk ⟨some ⟨gM, 0, none⟩, S, S, AV, td.vdc.length, kV, AC, td.vce.length, kC, AR, td.port.length, kR, AE, td.edges.length, kE, bg⟩ := by
        have o := HWW.out.2
        have := o.vdc; have := o.vce; have := o.port; have := o.edges
        exact ⟨by show S ≤ _; omega, by show td.vdc.length ≤ _; omega, by show td.vce.length ≤ _; omega, by show td.port.length ≤ _; omega, by show td.edges.length ≤ _; omega, by show -9223372036854775808 ≤ bg; omega, by show bg ≤ 9223372036854775807; omega⟩
      have rowM : IRow w2 .u8 (some ⟨gM, 0, none⟩) S (laid (pL td.rom) td.rom.length) := fun i hi => by
        refine ⟨_, rfl, hbM.lt, ?_, ?_⟩
        · rw [add_zero_block, hbM.cell i]
          have := hAM.2 i hi
          rw [← HMM.out, HLAID.out i] at this
          simpa using this
        · refine u8_wf ?_
          rcases laid_or (pL td.rom) td.rom.length i with ⟨q, hq, h1, h2, h3⟩ | ⟨_, h3⟩
          · rw [h3]
            have e : td.rom.getD q (0, []) = td.rom[q] := by simp [List.getD, hq]
            have hwq := HWW.out.1.rom td.rom[q] (List.getElem_mem hq)
            unfold pL at h1 h2 ⊢
            rw [e] at h1 h2 ⊢
            dsimp only at h1 h2 ⊢
            have hz : ((i : Int) - td.rom[q].1).toNat < td.rom[q].2.length := by omega
            have : zL td.rom[q].2 ((i : Int) - td.rom[q].1).toNat = td.rom[q].2[((i : Int) - td.rom[q].1).toNat] := by simp [zL, List.getD, hz]
            rw [this]
            exact hwq.2.2.1 _ (List.getElem_mem hz)
          · rw [h3]; decide
      have SCR : ScrV w2 ⟨some ⟨gM, 0, none⟩, S, S, AV, td.vdc.length, kV, AC, td.vce.length, kC, AR, td.port.length, kR, AE, td.edges.length, kE, bg⟩ ⟨S, laid (pL td.rom) td.rom.length, td.vdc, td.vce, td.port, td.edges, bg⟩ :=
        ⟨⟨rfl, Nat.le_refl _, by show S ≤ maxLen; unfold maxLen; omega, rowM, fun ad x => by cases x; exact ⟨_, hbM⟩, fun x => by cases x⟩, ⟨rfl, v1, v2, v3, v4, v5⟩, ⟨rfl, x1, x2, x3, x4, x5⟩, ⟨rfl, p1, p2, p3, p4, p5⟩, ⟨rfl, g1, g2, g3, g4, g5⟩, rfl⟩
      rw [← HP2.out] at SCR
      have Z2 := Lib.hid (Z1.out.below b2 Z1.out.lt)
      have B2 := Lib.hid (HB1'.out.trans (b2.mono HB1'.out.size))
      have HT := Lib.hid H2.blk
      have SC := Lib.hid SCR
      have SO := Lib.hid SVok
      have HEQ := Lib.hid hE2
      obtain ⟨nV, hnV⟩ : ∃ n, td.vdc.length = n := ⟨_, rfl⟩
      obtain ⟨nC, hnC⟩ : ∃ n, td.vce.length = n := ⟨_, rfl⟩
      obtain ⟨nR, hnR⟩ : ∃ n, td.port.length = n := ⟨_, rfl⟩
      obtain ⟨nE, hnE⟩ : ∃ n, td.edges.length = n := ⟨_, rfl⟩
      rw [hnV, hnC, hnR, hnE] at SC SO HT HEQ
      have ERW : Hid (ERow w2 AE nE (eL td.edges)) := Lib.hid (by rw [← hnE]; exact g3)
      clear SVok SCR rowM H2 v1 v2 v3 v4 v5 v6 x1 x2 x3 x4 x5 x6 p1 p2 p3 p4 p5 p6 g1 g2 g3 g4 g5 g6 hnV hnC hnR hnE b2 hgood hbM hAM hgM hg1 hE2 HMK c0 c1 d0 d1 d2 d3 d4 d5 y0 y1 y2 y3 y4 y5 hlk1 hlk2
      go_upto_region 8 with fail
      generalize hw3 : World.alloc w2 _ = w3
      have hw4 : w2.alloc (.cells #[.int .i64 0, .int .i64 0] 34) = w3 := hw3
      have Z3 : Hid (Blk w3 r 27 sv0.cs) := Lib.hid (hw4 ▸ Z2.out.alloc _)
      have B3 : Hid (Below w.heap.size w w3) := Lib.hid (hw4 ▸ B2.out.alloc B2.out.size _)
      have T3 := Lib.hid (hw4 ▸ HT.out.alloc (.cells #[.int .i64 0, .int .i64 0] 34))
      have SC3 := Lib.hid (hw4 ▸ SC.out.keep ((Below.refl _ w2).alloc (Nat.le_refl _) (.cells #[.int .i64 0, .int .i64 0] 34)))
      have ER3 := Lib.hid (hw4 ▸ FRow.keep ERW.out ((Below.refl _ w2).alloc (Nat.le_refl _) (.cells #[.int .i64 0, .int .i64 0] 34)))
      clear Z2 B2 HT SC ERW hw3 hw4
      refine rg_begin (S := fun w' => w'.cell? ⟨g, 2, none⟩ = some (.slice AV nV kV) ∧ w'.cell? ⟨g, 3, none⟩ = some (.slice AC nC kC) ∧ w'.cell? ⟨g, 4, none⟩ = some (.slice AR nR kR) ∧ w'.cell? ⟨g, 5, none⟩ = some (.slice AE nE kE)) 13 #[false, false, false, false, false, false, false, false, false, false, false, false, false] (by kernel_rfl) (by kernel_rfl) (by kernel_rfl) ?_ (fun hHeld => ?_)
      · exact ⟨T3.out.cell 2, T3.out.cell 3, T3.out.cell 4, T3.out.cell 5⟩
      have ZD := Lib.hid (Z3.out.kp (Kp.refl [] _).drew (by simp))
      have TD := Lib.hid (T3.out.kp (Kp.refl [] _).drew (by simp))
      have BD := Lib.hid (below_drew_ B3.out)
      have SD := Lib.hid (SC3.out.kp (L := []) (Kp.refl [] _).drew (by simp))
      have ED := Lib.hid (FRow.kp ER3.out (Kp.refl [] _).drew (by simp))
      clear Z3 B3 T3 SC3 ER3
      generalize World.drew w3 = wD at *
      have TA := Lib.hid (TD.out.alloc (.cells sv0.cs 27))
      refine rg_take (i := 0) (d := some 50) (l := #[true, false, false, false, false, false, false, false, false, false, false, false, false]) (fuel := 12) (v := ?_) rfl (by kernel_rfl) (by kernel_rfl) (by kernel_rfl) (by kernel_rfl) (by kernel_rfl) (fun _ _ _ h => h) (by kernel_rfl) ?_ (by assumption) ?_
      rotate_left 1
      · (intro wS hSw; (try dsimp only at hSw); go_simp; try with_reducible rfl)
      try simp only [Act.put, List.setIfInBounds_toArray, List.set_cons_zero, List.set_cons_succ]
      refine rg_take (i := 1) (d := some 51) (l := #[true, true, false, false, false, false, false, false, false, false, false, false, false]) (fuel := 11) (v := ?_) rfl (by kernel_rfl) (by kernel_rfl) (by kernel_rfl) (by kernel_rfl) (by kernel_rfl) (fun _ _ _ h => h) (by kernel_rfl) ?_ (by assumption) ?_
      rotate_left 1
      · (intro wS hSw; (try dsimp only at hSw); go_simp; try with_reducible rfl)
      try simp only [Act.put, List.setIfInBounds_toArray, List.set_cons_zero, List.set_cons_succ]
      refine rg_take (i := 2) (d := some 52) (l := #[true, true, true, false, false, false, false, false, false, false, false, false, false]) (fuel := 10) (v := ?_) rfl (by kernel_rfl) (by kernel_rfl) (by kernel_rfl) (by kernel_rfl) (by kernel_rfl) (fun _ _ _ h => h) (by kernel_rfl) ?_ (by assumption) ?_
      rotate_left 1
      · (intro wS hSw; (try dsimp only at hSw); go_simp; try with_reducible rfl)
      try simp only [Act.put, List.setIfInBounds_toArray, List.set_cons_zero, List.set_cons_succ]
      refine rg_take (i := 3) (d := some 53) (l := #[true, true, true, true, false, false, false, false, false, false, false, false, false]) (fuel := 9) (v := ?_) rfl (by kernel_rfl) (by kernel_rfl) (by kernel_rfl) (by kernel_rfl) (by kernel_rfl) (fun _ _ _ h => h) (by kernel_rfl) ?_ (by assumption) ?_
      rotate_left 1
      · (intro wS hSw; (try dsimp only at hSw); go_simp; try with_reducible rfl)
      try simp only [Act.put, List.setIfInBounds_toArray, List.set_cons_zero, List.set_cons_succ]
      refine rg_take (i := 4) (d := some 54) (l := #[true, true, true, true, true, false, false, false, false, false, false, false, false]) (fuel := 8) (v := ?_) rfl (by kernel_rfl) (by kernel_rfl) (by kernel_rfl) (by kernel_rfl) (by kernel_rfl) (fun _ _ _ h => h) (by kernel_rfl) ?_ (by assumption) ?_
      rotate_left 1
      · (intro wS hSw; (try dsimp only at hSw); go_simp; try with_reducible rfl)
      try simp only [Act.put, List.setIfInBounds_toArray, List.set_cons_zero, List.set_cons_succ]
      refine rg_take (i := 5) (d := some 55) (l := #[true, true, true, true, true, true, false, false, false, false, false, false, false]) (fuel := 7) (v := ?_) rfl (by kernel_rfl) (by kernel_rfl) (by kernel_rfl) (by kernel_rfl) (by kernel_rfl) (fun _ _ _ h => h) (by kernel_rfl) ?_ (by assumption) ?_
      rotate_left 1
      · (intro wS hSw; (try dsimp only at hSw); go_simp; try with_reducible rfl)
      try simp only [Act.put, List.setIfInBounds_toArray, List.set_cons_zero, List.set_cons_succ]
      refine rg_take (i := 6) (d := some 56) (l := #[true, true, true, true, true, true, true, false, false, false, false, false, false]) (fuel := 6) (v := ?_) rfl (by kernel_rfl) (by kernel_rfl) (by kernel_rfl) (by kernel_rfl) (by kernel_rfl) (fun _ _ _ h => h) (by kernel_rfl) ?_ (by assumption) ?_
      rotate_left 1
      · (intro wS hSw; (try dsimp only at hSw); go_simp; try with_reducible rfl)
      try simp only [Act.put, List.setIfInBounds_toArray, List.set_cons_zero, List.set_cons_succ]
      refine rg_take (i := 7) (d := some 57) (l := #[true, true, true, true, true, true, true, true, false, false, false, false, false]) (fuel := 5) (v := ?_) rfl (by kernel_rfl) (by kernel_rfl) (by kernel_rfl) (by kernel_rfl) (by kernel_rfl) (fun _ _ _ h => h) (by kernel_rfl) ?_ (by assumption) ?_
      rotate_left 1
      · (intro wS hSw; (try dsimp only at hSw); go_simp; try with_reducible rfl)
      try simp only [Act.put, List.setIfInBounds_toArray, List.set_cons_zero, List.set_cons_succ]
      refine rg_take (i := 8) (d := some 58) (l := #[true, true, true, true, true, true, true, true, true, false, false, false, false]) (fuel := 4) (v := ?_) rfl (by kernel_rfl) (by kernel_rfl) (by kernel_rfl) (by kernel_rfl) (by kernel_rfl) (fun _ _ _ h => h) (by kernel_rfl) ?_ (by assumption) ?_
      rotate_left 1
      · (intro wS hSw; (try dsimp only at hSw); go_simp; try with_reducible rfl)
      try simp only [Act.put, List.setIfInBounds_toArray, List.set_cons_zero, List.set_cons_succ]
      refine rg_take (i := 9) (d := some 59) (l := #[true, true, true, true, true, true, true, true, true, true, false, false, false]) (fuel := 3) (v := ?_) rfl (by kernel_rfl) (by kernel_rfl) (by kernel_rfl) (by kernel_rfl) (by kernel_rfl) (fun _ _ _ h => h) (by kernel_rfl) ?_ (by assumption) ?_
      rotate_left 1
      · (intro wS hSw; (try dsimp only at hSw); go_simp; try with_reducible rfl)
      try simp only [Act.put, List.setIfInBounds_toArray, List.set_cons_zero, List.set_cons_succ]
      refine rg_take (i := 10) (d := some 60) (l := #[true, true, true, true, true, true, true, true, true, true, true, false, false]) (fuel := 2) (v := ?_) rfl (by kernel_rfl) (by kernel_rfl) (by kernel_rfl) (by kernel_rfl) (by kernel_rfl) (fun _ _ _ h => h) (by kernel_rfl) ?_ (by assumption) ?_
      rotate_left 1
      · (intro wS hSw; (try dsimp only at hSw); go_simp; try with_reducible rfl)
      try simp only [Act.put, List.setIfInBounds_toArray, List.set_cons_zero, List.set_cons_succ]
      refine rg_next (i := 11) (l := #[true, true, true, true, true, true, true, true, true, true, true, true, false]) (fuel := 1) (by kernel_rfl) rfl (by kernel_rfl) (by kernel_rfl) (fun K hK => ?_)
      go_simp
      skip
      first | (refine hK.out _ _ ?_ (fun hHeld => ?_)) | (go_wp2_with fail; refine hK.out _ _ ?_ (fun hHeld => ?_))
      · (try dsimp only); exact ⟨TA.out.cell 2, TA.out.cell 3, TA.out.cell 4, TA.out.cell 5⟩
      clear hK K
      try simp only [Act.put, List.setIfInBounds_toArray, List.set_cons_zero, List.set_cons_succ]
      generalize hw5 : World.alloc wD _ = w5
      have hw6 : wD.alloc (.cells sv0.cs 27) = w5 := hw5
      have N5 : Blk w5 wD.heap.size 27 sv0.cs := hw6 ▸ Blk.new _ _ _
      have T5 := Lib.hid (hw6 ▸ TA.out)
      have Z5 := Lib.hid (hw6 ▸ ZD.out.alloc (.cells sv0.cs 27))
      have B5 := Lib.hid (hw6 ▸ BD.out.alloc BD.out.size (.cells sv0.cs 27))
      have S5 := Lib.hid (hw6 ▸ SD.out.keep ((Below.refl _ wD).alloc (Nat.le_refl _) (.cells sv0.cs 27)))
      have E5 := Lib.hid (hw6 ▸ FRow.keep ED.out ((Below.refl _ wD).alloc (Nat.le_refl _) (.cells sv0.cs 27)))
      have gnb : g ≠ wD.heap.size := fun e => by have := TD.out.lt; omega
      have rnb : r ≠ wD.heap.size := fun e => by have := ZD.out.lt; omega
      have nbw : w.heap.size ≤ wD.heap.size := BD.out.size
      obtain ⟨nb, hnb⟩ : ∃ x, wD.heap.size = x := ⟨_, rfl⟩
      rw [hnb] at N5 gnb rnb nbw
      rw [hnb]
      clear TA ZD BD SD ED TD hw5 hw6 hnb
      have HN5 := Lib.hid N5
      have a0 : w5.cell? ⟨nb, 0, none⟩ = some (.slice none 0 0) := N5.cell 0
      have b0 : w5.frozen? ⟨nb, 0, none⟩ = false := N5.frozen 0
      have a1 : w5.cell? ⟨nb, 1, none⟩ = some (.slice none 0 0) := N5.cell 1
      have b1 : w5.frozen? ⟨nb, 1, none⟩ = false := N5.frozen 1
      have a2 : w5.cell? ⟨nb, 2, none⟩ = some (.slice none 0 0) := N5.cell 2
      have b2 : w5.frozen? ⟨nb, 2, none⟩ = false := N5.frozen 2
      have a3 : w5.cell? ⟨nb, 3, none⟩ = some (.slice none 0 0) := N5.cell 3
      have b3 : w5.frozen? ⟨nb, 3, none⟩ = false := N5.frozen 3
      have a4 : w5.cell? ⟨nb, 4, none⟩ = some (.slice none 0 0) := N5.cell 4
      have b4 : w5.frozen? ⟨nb, 4, none⟩ = false := N5.frozen 4
      have a5 : w5.cell? ⟨nb, 5, none⟩ = some (.int .i64 0) := N5.cell 5
      have b5 : w5.frozen? ⟨nb, 5, none⟩ = false := N5.frozen 5
      refine rg_next (i := 12) (l := #[true, true, true, true, true, true, true, true, true, true, true, true, true]) (fuel := 0) (by kernel_rfl) rfl (by kernel_rfl) (by kernel_rfl) (fun K hK => ?_)
      go_simp
      skip
      first | (refine hK.out _ _ ?_ (fun hHeld => ?_)) | (go_wp2_with fail; refine hK.out _ _ ?_ (fun hHeld => ?_))
      · (try dsimp only); exact ⟨((((((T5.out.far (p := ⟨nb, 0, none⟩) gnb _).far (p := ⟨nb, 1, none⟩) gnb _).far (p := ⟨nb, 2, none⟩) gnb _).far (p := ⟨nb, 3, none⟩) gnb _).far (p := ⟨nb, 4, none⟩) gnb _).far (p := ⟨nb, 5, none⟩) gnb _).cell 2, ((((((T5.out.far (p := ⟨nb, 0, none⟩) gnb _).far (p := ⟨nb, 1, none⟩) gnb _).far (p := ⟨nb, 2, none⟩) gnb _).far (p := ⟨nb, 3, none⟩) gnb _).far (p := ⟨nb, 4, none⟩) gnb _).far (p := ⟨nb, 5, none⟩) gnb _).cell 3, ((((((T5.out.far (p := ⟨nb, 0, none⟩) gnb _).far (p := ⟨nb, 1, none⟩) gnb _).far (p := ⟨nb, 2, none⟩) gnb _).far (p := ⟨nb, 3, none⟩) gnb _).far (p := ⟨nb, 4, none⟩) gnb _).far (p := ⟨nb, 5, none⟩) gnb _).cell 4, ((((((T5.out.far (p := ⟨nb, 0, none⟩) gnb _).far (p := ⟨nb, 1, none⟩) gnb _).far (p := ⟨nb, 2, none⟩) gnb _).far (p := ⟨nb, 3, none⟩) gnb _).far (p := ⟨nb, 4, none⟩) gnb _).far (p := ⟨nb, 5, none⟩) gnb _).cell 5⟩
      clear hK K
      try simp only [Act.put, List.setIfInBounds_toArray, List.set_cons_zero, List.set_cons_succ]
      refine wpAnyH_done (by kernel_rfl) ?_ _
      have hk := zero_six HN5.out B5.out nbw (.slice (some ⟨gM, 0, none⟩) S S) (.slice AV nV kV) (.slice AC nC kC) (.slice AR nR kR) (.slice AE nE kE) (.int .i64 bg)
      have kk : Kp [nb] w5 ((((((w5.setCell ⟨nb, 0, none⟩ (.slice (some ⟨gM, 0, none⟩) S S)).setCell ⟨nb, 1, none⟩ (.slice AV nV kV)).setCell ⟨nb, 2, none⟩ (.slice AC nC kC)).setCell ⟨nb, 3, none⟩ (.slice AR nR kR)).setCell ⟨nb, 4, none⟩ (.slice AE nE kE)).setCell ⟨nb, 5, none⟩ (.int .i64 bg)) :=
        ((((((Kp.refl [nb] w5).setCell (p := ⟨nb, 0, none⟩) (.inl (by simp)) _).setCell (p := ⟨nb, 1, none⟩) (.inl (by simp)) _).setCell (p := ⟨nb, 2, none⟩) (.inl (by simp)) _).setCell (p := ⟨nb, 3, none⟩) (.inl (by simp)) _).setCell (p := ⟨nb, 4, none⟩) (.inl (by simp)) _).setCell (p := ⟨nb, 5, none⟩) (.inl (by simp)) _
      have hofs : ∀ x ∈ [nb], ∃ T cs, Blk w5 x T cs ∧ T ≠ 5 ∧ T ≠ 31 := fun x hx => by
        simp only [List.mem_singleton] at hx; subst hx
        exact ⟨_, _, HN5.out, by decide, by decide⟩
      have S6 := S5.out.kp kk hofs
      have Z6 := Z5.out.kp kk (by simpa using rnb)
      have hpe : PP.edges = td.edges := by rw [HP2.out]
      have E6 := S6.edges.2.2.2.1
      rw [hpe] at E6
      have N6 := hk.2
      have B6 := hk.1
      obtain ⟨w6, hw6⟩ : ∃ x, ((((((w5.setCell ⟨nb, 0, none⟩ (.slice (some ⟨gM, 0, none⟩) S S)).setCell ⟨nb, 1, none⟩ (.slice AV nV kV)).setCell ⟨nb, 2, none⟩ (.slice AC nC kC)).setCell ⟨nb, 3, none⟩ (.slice AR nR kR)).setCell ⟨nb, 4, none⟩ (.slice AE nE kE)).setCell ⟨nb, 5, none⟩ (.int .i64 bg)) = x := ⟨_, rfl⟩
      rw [hw6] at S6 Z6 E6 N6 B6 ⊢
      have HCK : Calls Tryd.prog 13 #[.agg #[.slice (some ⟨gM, 0, none⟩) S S, .slice AV nV kV, .slice AC nC kC, .slice AR nR kR, .slice AE nE kE, .int .i64 bg]] w6 fun e w' => e = .returned (fltV (chkS S nV nC nR (eL td.edges) nE bg)) ∧ Below w6.heap.size w6 w' := sccheck_any ⟨some ⟨gM, 0, none⟩, S, S, AV, nV, kV, AC, nC, kC, AR, nR, kR, AE, nE, kE, bg⟩ (eL td.edges) SO.out E6
      obtain ⟨rr, hrr⟩ : ∃ x, chkS S nV nC nR (eL td.edges) nE bg = x := ⟨_, rfl⟩
      have HZ := Lib.hid (chkS_zero S nV nC nR (eL td.edges) nE bg)
      rw [hrr] at HCK HEQ HZ
      obtain ⟨qa, qb⟩ := rr
      dsimp only at HEQ HZ
      have n0 : w6.cell? ⟨nb, 0, none⟩ = some (.slice (some ⟨gM, 0, none⟩) S S) := N6.cell 0
      have n1 : w6.cell? ⟨nb, 1, none⟩ = some (.slice AV nV kV) := N6.cell 1
      have n2 : w6.cell? ⟨nb, 2, none⟩ = some (.slice AC nC kC) := N6.cell 2
      have n3 : w6.cell? ⟨nb, 3, none⟩ = some (.slice AR nR kR) := N6.cell 3
      have n4 : w6.cell? ⟨nb, 4, none⟩ = some (.slice AE nE kE) := N6.cell 4
      have n5 : w6.cell? ⟨nb, 5, none⟩ = some (.int .i64 bg) := N6.cell 5
      have HS6 := Lib.hid S6
      have HZ6 := Lib.hid Z6
      have HN6 := Lib.hid N6
      have HB6 := Lib.hid B6
      have CK := Lib.hid HCK
      clear hk kk hofs S6 Z6 E6 N6 B6 HCK hrr hw6 hpe a0 a1 a2 a3 a4 a5 b0 b1 b2 b3 b4 b5 gnb HN5 T5 Z5 B5 S5 E5
      go_wp2_with fail
      refine CK.out.mono ?_
      rintro e w7 ⟨rfl, b7⟩
      unfold fltV
      dsimp only
      have SS7 := HS6.out.keep b7
      have Z7 := HZ6.out.below b7 HZ6.out.lt
      have N7 := HN6.out.below b7 HN6.out.lt
      have B7 := HB6.out.trans (b7.mono HB6.out.size)
      have SS8 := Lib.hid (SS7.keep ((Below.refl _ w7).alloc (Nat.le_refl _) (.cells #[.int .i64 qa, .int .i64 qb] 34)))
      have Z8 := Lib.hid (Z7.alloc (.cells #[.int .i64 qa, .int .i64 qb] 34))
      have N8 := Lib.hid (N7.alloc (.cells #[.int .i64 qa, .int .i64 qb] 34))
      have B8 := Lib.hid (B7.alloc B7.size (.cells #[.int .i64 qa, .int .i64 qb] 34))
      have X8 : Hid (Blk (w7.alloc (.cells #[.int .i64 qa, .int .i64 qb] 34)) w7.heap.size 34 #[.int .i64 qa, .int .i64 qb]) := Lib.hid (Blk.new _ _ _)
      have HNE := Lib.hid (show w7.heap.size ≠ r from fun e => by have := Z7.lt; omega)
      clear b7 SS7 Z7 N7 B7 n0 n1 n2 n3 n4 n5 HS6 HZ6 HN6 HB6
      go_upto_region 10 with fail
      generalize hw8 : World.alloc w7 _ = w8
      have hw9 : w7.alloc (.cells #[.int .i64 qa, .int .i64 qb] 34) = w8 := hw8
      rw [hw9] at SS8 Z8 N8 B8 X8
      obtain ⟨gx, hgx⟩ : ∃ x, w7.heap.size = x := ⟨_, rfl⟩
      rw [hgx] at X8 HNE ⊢
      have hne := HNE.out
      have hle := HRL.out
      clear hw8 hw9 hgx
      have m0 : w8.cell? ⟨gx, 0, none⟩ = some (.int .i64 qa) := X8.out.cell 0
      have m1 : w8.cell? ⟨gx, 1, none⟩ = some (.int .i64 qb) := X8.out.cell 1
      by_cases hqa : qa = 0
      · have hqb := HZ.out hqa
        subst hqa hqb
        have hE0 : EE = 0 := HEQ.out
        subst hE0
        have n0 : w8.cell? ⟨nb, 0, none⟩ = some (.slice (some ⟨gM, 0, none⟩) S S) := N8.out.cell 0
        have n1 : w8.cell? ⟨nb, 1, none⟩ = some (.slice AV nV kV) := N8.out.cell 1
        have n2 : w8.cell? ⟨nb, 2, none⟩ = some (.slice AC nC kC) := N8.out.cell 2
        have n3 : w8.cell? ⟨nb, 3, none⟩ = some (.slice AR nR kR) := N8.out.cell 3
        have n4 : w8.cell? ⟨nb, 4, none⟩ = some (.slice AE nE kE) := N8.out.cell 4
        have n5 : w8.cell? ⟨nb, 5, none⟩ = some (.int .i64 bg) := N8.out.cell 5
        have d0 : w8.cell? ⟨r, 0, none⟩ = some (.slice none 0 0) := Z8.out.cell 0
        have y0 : w8.frozen? ⟨r, 0, none⟩ = false := Z8.out.frozen 0
        have d1 : w8.cell? ⟨r, 1, none⟩ = some (.slice none 0 0) := Z8.out.cell 1
        have y1 : w8.frozen? ⟨r, 1, none⟩ = false := Z8.out.frozen 1
        have d2 : w8.cell? ⟨r, 2, none⟩ = some (.slice none 0 0) := Z8.out.cell 2
        have y2 : w8.frozen? ⟨r, 2, none⟩ = false := Z8.out.frozen 2
        have d3 : w8.cell? ⟨r, 3, none⟩ = some (.slice none 0 0) := Z8.out.cell 3
        have y3 : w8.frozen? ⟨r, 3, none⟩ = false := Z8.out.frozen 3
        have d4 : w8.cell? ⟨r, 4, none⟩ = some (.slice none 0 0) := Z8.out.cell 4
        have y4 : w8.frozen? ⟨r, 4, none⟩ = false := Z8.out.frozen 4
        have d5 : w8.cell? ⟨r, 5, none⟩ = some (.int .i64 0) := Z8.out.cell 5
        have y5 : w8.frozen? ⟨r, 5, none⟩ = false := Z8.out.frozen 5
        have hf := zero_six Z8.out B8.out hle (.slice (some ⟨gM, 0, none⟩) S S) (.slice AV nV kV) (.slice AC nC kC) (.slice AR nR kR) (.slice AE nE kE) (.int .i64 bg)
        have kk : Kp [r] w8 ((((((w8.setCell ⟨r, 0, none⟩ (.slice (some ⟨gM, 0, none⟩) S S)).setCell ⟨r, 1, none⟩ (.slice AV nV kV)).setCell ⟨r, 2, none⟩ (.slice AC nC kC)).setCell ⟨r, 3, none⟩ (.slice AR nR kR)).setCell ⟨r, 4, none⟩ (.slice AE nE kE)).setCell ⟨r, 5, none⟩ (.int .i64 bg)) :=
          ((((((Kp.refl [r] w8).setCell (p := ⟨r, 0, none⟩) (.inl (by simp)) _).setCell (p := ⟨r, 1, none⟩) (.inl (by simp)) _).setCell (p := ⟨r, 2, none⟩) (.inl (by simp)) _).setCell (p := ⟨r, 3, none⟩) (.inl (by simp)) _).setCell (p := ⟨r, 4, none⟩) (.inl (by simp)) _).setCell (p := ⟨r, 5, none⟩) (.inl (by simp)) _
        have SF := Lib.hid (SS8.out.kp kk (fun x hx => by
          simp only [List.mem_singleton] at hx; subst hx
          exact ⟨_, _, Z8.out, by decide, by decide⟩))
        have HF := Lib.hid hf
        clear hf kk
        go_wp2_with fail
        (try simp only [Exit.inBlock, Exit.then])
        refine bodyPost_ret (results_cell_tmp (a := ⟨r, 0, none⟩) Tryd.results51 (by rfl) (HF.out.2.run_load (P := Tryd.prog) Tryd.underlying27 rfl sizeS) rfl) rfl ?_
        exact ⟨HF.out.1, Or.inr ⟨rfl, ⟨some ⟨gM, 0, none⟩, S, S, AV, nV, kV, AC, nC, kC, AR, nR, kR, AE, nE, kE, bg⟩, rfl, SF.out, SO.out⟩⟩
      · have hEE3 : EE = qa := HEQ.out
        have e1 : (qa == 0) = false := by rw [beq_eq_false_iff_ne]; exact hqa
        have HQA := Lib.hid hqa
        subst hEE3
        clear hqa
        go_upto_region 11 with fail
        refine rg_begin (S := fun w' => w'.cell? ⟨gx, 0, none⟩ = some (.int .i64 (EE))) 5 #[false, false, false, false, false] (by kernel_rfl) (by kernel_rfl) (by kernel_rfl) ?_ (fun hHeld => ?_)
        · exact X8.out.cell 0
        have ZD := Lib.hid (Z8.out.kp (Kp.refl [] _).drew (by simp))
        have XD := Lib.hid (X8.out.kp (Kp.refl [] _).drew (by simp))
        have BD := Lib.hid (below_drew_ B8.out)
        clear Z8 X8 B8
        generalize World.drew w8 = wD at *
        have d0 : wD.cell? ⟨r, 0, none⟩ = some (.slice none 0 0) := ZD.out.cell 0
        have y0 : wD.frozen? ⟨r, 0, none⟩ = false := ZD.out.frozen 0
        have d1 : wD.cell? ⟨r, 1, none⟩ = some (.slice none 0 0) := ZD.out.cell 1
        have y1 : wD.frozen? ⟨r, 1, none⟩ = false := ZD.out.frozen 1
        have d2 : wD.cell? ⟨r, 2, none⟩ = some (.slice none 0 0) := ZD.out.cell 2
        have y2 : wD.frozen? ⟨r, 2, none⟩ = false := ZD.out.frozen 2
        have d3 : wD.cell? ⟨r, 3, none⟩ = some (.slice none 0 0) := ZD.out.cell 3
        have y3 : wD.frozen? ⟨r, 3, none⟩ = false := ZD.out.frozen 3
        have d4 : wD.cell? ⟨r, 4, none⟩ = some (.slice none 0 0) := ZD.out.cell 4
        have y4 : wD.frozen? ⟨r, 4, none⟩ = false := ZD.out.frozen 4
        have d5 : wD.cell? ⟨r, 5, none⟩ = some (.int .i64 0) := ZD.out.cell 5
        have y5 : wD.frozen? ⟨r, 5, none⟩ = false := ZD.out.frozen 5
        refine rg_take (i := 0) (d := some 66) (l := #[true, false, false, false, false]) (fuel := 4) (v := ?_) rfl (by kernel_rfl) (by kernel_rfl) (by kernel_rfl) (by kernel_rfl) (by kernel_rfl) (fun _ _ _ h => h) (by kernel_rfl) ?_ (by assumption) ?_
        rotate_left 1
        · (intro wS hSw; (try dsimp only at hSw); go_simp; try with_reducible rfl)
        try simp only [Act.put, List.setIfInBounds_toArray, List.set_cons_zero, List.set_cons_succ]
        refine rg_take (i := 1) (d := some 67) (l := #[true, true, false, false, false]) (fuel := 3) (v := ?_) rfl (by kernel_rfl) (by kernel_rfl) (by kernel_rfl) (by kernel_rfl) (by kernel_rfl) (fun _ _ _ h => h) (by kernel_rfl) ?_ (by assumption) ?_
        rotate_left 1
        · (intro wS hSw; (try dsimp only at hSw); go_simp; try with_reducible rfl)
        try simp only [Act.put, List.setIfInBounds_toArray, List.set_cons_zero, List.set_cons_succ]
        refine rg_take (i := 2) (d := some 68) (l := #[true, true, true, false, false]) (fuel := 2) (v := ?_) rfl (by kernel_rfl) (by kernel_rfl) (by kernel_rfl) (by kernel_rfl) (by kernel_rfl) (fun _ _ _ h => h) (by kernel_rfl) ?_ (by assumption) ?_
        rotate_left 1
        · (intro wS hSw; (try dsimp only at hSw); go_simp; try with_reducible rfl)
        try simp only [Act.put, List.setIfInBounds_toArray, List.set_cons_zero, List.set_cons_succ]
        refine rg_next (i := 3) (l := #[true, true, true, true, false]) (fuel := 1) (by kernel_rfl) rfl (by kernel_rfl) (by kernel_rfl) (fun K hK => ?_)
        go_simp
        skip
        first | (refine hK.out _ _ ?_ (fun hHeld => ?_)) | (go_wp2_with fail; refine hK.out _ _ ?_ (fun hHeld => ?_))
        · (try dsimp only); exact (((((((XD.out.far (p := ⟨r, 0, none⟩) hne _).far (p := ⟨r, 1, none⟩) hne _).far (p := ⟨r, 2, none⟩) hne _).far (p := ⟨r, 3, none⟩) hne _).far (p := ⟨r, 4, none⟩) hne _).far (p := ⟨r, 5, none⟩) hne _).cell 0)
        clear hK K
        try simp only [Act.put, List.setIfInBounds_toArray, List.set_cons_zero, List.set_cons_succ]
        refine rg_take (i := 4) (d := some 3) (l := #[true, true, true, true, true]) (fuel := 0) (v := ?_) rfl (by kernel_rfl) (by kernel_rfl) (by kernel_rfl) (by kernel_rfl) (by kernel_rfl) (fun _ _ _ h => h) (by kernel_rfl) ?_ (by assumption) ?_
        rotate_left 1
        · (intro wS hSw; (try dsimp only at hSw); go_simp; try with_reducible rfl)
        try simp only [Act.put, List.setIfInBounds_toArray, List.set_cons_zero, List.set_cons_succ]
        refine wpAnyH_done (by kernel_rfl) ?_ _
        go_wp2_with fail
        (try simp only [Exit.inBlock, Exit.then])
        have hf := zero_six ZD.out BD.out hle (.slice none 0 0) (.slice none 0 0) (.slice none 0 0) (.slice none 0 0) (.slice none 0 0) (.int .i64 0)
        refine bodyPost_ret (results_cell_tmp (a := ⟨r, 0, none⟩) Tryd.results51 (by rfl) (hf.2.run_load (P := Tryd.prog) Tryd.underlying27 rfl sizeS) rfl) rfl ?_
        exact ⟨hf.1, Or.inl ⟨HQA.out, rfl⟩⟩
end Go.Proofs.YtnhnphifhkkboaaDoor
