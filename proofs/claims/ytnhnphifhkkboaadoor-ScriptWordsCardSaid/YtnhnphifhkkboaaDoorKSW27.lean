/-
  Texts of these proofs, one behind the other: Scr8.
-/
import Derived.Test.YtnhnphifhkkboaaDoorKSW26
namespace Go.Proofs.YtnhnphifhkkboaaDoor
open Go.RowKit Go.Shelf
set_option linter.unusedVariables false
set_option linter.unusedSimpArgs false
set_option maxRecDepth 100000
/-- A block that was made last, laid behind a row of the call's own: and where the row lies then. -/
theorem more_at {P : Program} {t e ty : TypeId} {size bytes : Nat} {z : Value} {w : World} {base n m c g : Nat} {v : Value} {xs : List Value} (ht : P.underlying t = some (.slice e))
    (hinfo : (P.info? e).map (fun i => (i.zero, i.size, i.bytes)) = some (some z, size, bytes)) (hzs : z.cells.size = size) (hsz : 0 < size)
    (hown : w.ownsRow base e size v n xs) (cells : Array Value) (hlen : cells.size = m * size) (h1 : ∀ u ∈ cells.toList, u.oneCell' = true) (hg : g = w.heap.size)
    (hm : n + m ≤ 1099511627776) (hby : (n + m) * bytes ≤ 140737488355328) (hbase : base ≤ w.heap.size) :
    ∃ v' w', (Builtin.append_ #[t, t] ty #[v, .slice (some ⟨g, 0, none⟩) m c]).run P (w.alloc (.cells cells e)) = .ok v' w' ∧ w'.ownsRow base e size v' (n + m) (xs ++ cells.toList) ∧ (w.alloc (.cells cells e)).grownBy w' v.ownBlock ∧ (v'.ownBlock = v.ownBlock ∨ v'.ownBlock = some (w.heap.size + 1)) := by
  subst hg
  obtain ⟨i, hi, hzz⟩ := Option.map_eq_some_iff.1 hinfo
  simp only [Prod.mk.injEq] at hzz
  obtain ⟨hz, hs, hb⟩ := hzz
  obtain ⟨v', w', h1', h2, h3, _, h5⟩ := run_append_own_at (P := P) (w.alloc (.cells cells e)) base t ty e i z size bytes ht hi hz hs hb hzs hsz v n xs (hown.alloc _) ⟨w.heap.size, 0, none⟩ m c cells.toList (by simpa using hlen)
    (fun j u hu => by
      rw [add_zero_block, cell_of_row _ _ j _ e (0, 0) (heap_alloc_new w _)]
      simpa using hu)
    h1 (by unfold maxLen; omega) hby (by simp; omega)
  exact ⟨v', w', h1', h2, h3, by simpa using h5⟩
theorem own_lt {w : World} {B e s n q : Nat} {v : Value} {xs : List Value} (own : w.ownsRow B e s v n xs) (h : v.ownBlock = some q) : q < w.heap.size := by
  obtain ⟨_, c, hc⟩ := own_has own h
  exact hc.lt
theorem own_ne_own {w : World} {B B' e e' s s' n n' q : Nat} {v v' : Value} {xs xs' : List Value} (own : w.ownsRow B e s v n xs) (own' : w.ownsRow B' e' s' v' n' xs') (hne : e ≠ e') (h : v.ownBlock = some q) : v'.ownBlock ≠ some q := fun h' => by
  obtain ⟨_, c, hc⟩ := own_has own h
  obtain ⟨_, c', hc'⟩ := own_has own' h'
  exact hc.ne_ hc' hne rfl
/-- Bytes behind the row of vdc. -/
theorem TdH.feed0 {B g mb : Nat} {td : Td} {vP vV vC vR vE : Value} {w w' : World} (h : TdH B g mb td vP vV vC vR vE w) {v' : Value} {ys : List Int} (k : Kp (g :: vV.ownBlock.toList) w w')
    (hb : Blk w' g 84 ((#[.map (some mb), vP, vV, vC, vR, vE] : Array Value).setIfInBounds 2 v')) (own : w'.ownsRow B 5 1 v' (td.vdc ++ ys).length (bV (td.vdc ++ ys))) (hv : v'.ownBlock = vV.ownBlock ∨ ∃ k, v'.ownBlock = some k ∧ w.heap.size ≤ k) :
    TdH B g mb { td with vdc := td.vdc ++ ys } vP v' vC vR vE w' ∧ ∀ x ∈ tdL g mb vP v' vC vR vE, x ∈ tdL g mb vP vV vC vR vE ∨ w.heap.size ≤ x := by
  obtain ⟨D, hD, hM⟩ := h.map
  obtain ⟨ps, e1, e2, e3, e4⟩ := h.rom
  have noG : ∀ {B' e s n q : Nat} {u : Value} {xs : List Value}, w.ownsRow B' e s u n xs → e ≠ 84 → u.ownBlock = some q → q ≠ g := fun o hne hq e => by
    subst e
    obtain ⟨_, c, hc⟩ := own_has o hq
    exact hc.ne_ h.blk hne rfl
  have hmb : mb ∉ g :: vV.ownBlock.toList := fun hm => by
    rcases List.mem_cons.1 hm with e | hm
    · exact blk_not_map h.blk hD e.symm
    · exact own_not_map h.rv hD mb (by simpa using hm) (by simp)
  have ne {q : Nat} : q ≠ g → vV.ownBlock ≠ some q → q ∉ g :: vV.ownBlock.toList := fun h1 h2 hm => by
    rcases List.mem_cons.1 hm with e | hm
    · exact h1 e
    · exact h2 (by simpa using hm)
  refine ⟨{
    blk := hb
    gB := h.gB
    mB := h.mB
    map := ⟨D, smap_kp hD k hmb, hM⟩
    rom := ⟨ps, e1, own_kp e2 k (fun q hq => ne (noG e2 (by decide) hq) (own_ne_own e2 h.rv (by decide) hq)), fun p hp => own_kp (e3 p hp) k (fun q hq => ne (noG (e3 p hp) (by decide) hq) (e4 p hp q hq).1), fun p hp q hq => ?_⟩
    rv := own
    rc := own_kp h.rc k (fun q hq => ne (noG h.rc (by decide) hq) (fun hh => (h.d1 q hh).1 hq))
    rr := own_kp h.rr k (fun q hq => ne (noG h.rr (by decide) hq) (fun hh => (h.d1 q hh).2 hq))
    re := own_kp h.re k (fun q hq => ne (noG h.re (by decide) hq) (own_ne_own h.re h.rv (by decide) hq))
    d1 := fun q hq => ?_
    d2 := fun q hq => ?_ }, fun x hx => ?_⟩
  · have hx := e4 p hp q hq
    have hlt := own_lt (e3 p hp) hq
    have hn : v'.ownBlock ≠ some q := by
      rcases hv with e | ⟨k', e, hk⟩
      · rw [e]; exact hx.1
      · rw [e]; intro e'; injection e' with e'; omega
    exact ⟨hn, hx.2.1, hx.2.2⟩
  · rcases hv with e | ⟨k', e, hk⟩
    · rw [e] at hq; exact h.d1 q hq
    · rw [e] at hq; injection hq with hq; subst hq
      exact ⟨fun e2 => by have := own_lt h.rc e2; omega, fun e2 => by have := own_lt h.rr e2; omega⟩
  · exact h.d2 q hq
  · rw [mem_tdL] at hx ⊢
    have key : v'.ownBlock = some x → vV.ownBlock = some x ∨ w.heap.size ≤ x := fun e => by
      rcases hv with e' | ⟨k', e', hk⟩
      · exact Or.inl (e' ▸ e)
      · rw [e'] at e; injection e with e; subst e; exact Or.inr hk
    rcases hx with e | e | e | e | e | e | e
    · exact Or.inl (by simp [e])
    · exact Or.inl (by simp [e])
    · exact Or.inl (by simp [e])
    · rcases key e with e | e
      · exact Or.inl (by simp [e])
      · exact Or.inr e
    · exact Or.inl (by simp [e])
    · exact Or.inl (by simp [e])
    · exact Or.inl (by simp [e])
/-- Bytes behind the row of vce. -/
theorem TdH.feed1 {B g mb : Nat} {td : Td} {vP vV vC vR vE : Value} {w w' : World} (h : TdH B g mb td vP vV vC vR vE w) {v' : Value} {ys : List Int} (k : Kp (g :: vC.ownBlock.toList) w w')
    (hb : Blk w' g 84 ((#[.map (some mb), vP, vV, vC, vR, vE] : Array Value).setIfInBounds 3 v')) (own : w'.ownsRow B 5 1 v' (td.vce ++ ys).length (bV (td.vce ++ ys))) (hv : v'.ownBlock = vC.ownBlock ∨ ∃ k, v'.ownBlock = some k ∧ w.heap.size ≤ k) :
    TdH B g mb { td with vce := td.vce ++ ys } vP vV v' vR vE w' ∧ ∀ x ∈ tdL g mb vP vV v' vR vE, x ∈ tdL g mb vP vV vC vR vE ∨ w.heap.size ≤ x := by
  obtain ⟨D, hD, hM⟩ := h.map
  obtain ⟨ps, e1, e2, e3, e4⟩ := h.rom
  have noG : ∀ {B' e s n q : Nat} {u : Value} {xs : List Value}, w.ownsRow B' e s u n xs → e ≠ 84 → u.ownBlock = some q → q ≠ g := fun o hne hq e => by
    subst e
    obtain ⟨_, c, hc⟩ := own_has o hq
    exact hc.ne_ h.blk hne rfl
  have hmb : mb ∉ g :: vC.ownBlock.toList := fun hm => by
    rcases List.mem_cons.1 hm with e | hm
    · exact blk_not_map h.blk hD e.symm
    · exact own_not_map h.rc hD mb (by simpa using hm) (by simp)
  have ne {q : Nat} : q ≠ g → vC.ownBlock ≠ some q → q ∉ g :: vC.ownBlock.toList := fun h1 h2 hm => by
    rcases List.mem_cons.1 hm with e | hm
    · exact h1 e
    · exact h2 (by simpa using hm)
  refine ⟨{
    blk := hb
    gB := h.gB
    mB := h.mB
    map := ⟨D, smap_kp hD k hmb, hM⟩
    rom := ⟨ps, e1, own_kp e2 k (fun q hq => ne (noG e2 (by decide) hq) (own_ne_own e2 h.rc (by decide) hq)), fun p hp => own_kp (e3 p hp) k (fun q hq => ne (noG (e3 p hp) (by decide) hq) (e4 p hp q hq).2.1), fun p hp q hq => ?_⟩
    rv := own_kp h.rv k (fun q hq => ne (noG h.rv (by decide) hq) (h.d1 q hq).1)
    rc := own
    rr := own_kp h.rr k (fun q hq => ne (noG h.rr (by decide) hq) (fun hh => h.d2 q hh hq))
    re := own_kp h.re k (fun q hq => ne (noG h.re (by decide) hq) (own_ne_own h.re h.rc (by decide) hq))
    d1 := fun q hq => ?_
    d2 := fun q hq => ?_ }, fun x hx => ?_⟩
  · have hx := e4 p hp q hq
    have hlt := own_lt (e3 p hp) hq
    have hn : v'.ownBlock ≠ some q := by
      rcases hv with e | ⟨k', e, hk⟩
      · rw [e]; exact hx.2.1
      · rw [e]; intro e'; injection e' with e'; omega
    exact ⟨hx.1, hn, hx.2.2⟩
  · have hlt := own_lt h.rv hq
    refine ⟨?_, (h.d1 q hq).2⟩
    rcases hv with e | ⟨k', e, hk⟩
    · rw [e]; exact (h.d1 q hq).1
    · rw [e]; intro e'; injection e' with e'; omega
  · rcases hv with e | ⟨k', e, hk⟩
    · rw [e] at hq; exact h.d2 q hq
    · rw [e] at hq; injection hq with hq; subst hq
      exact fun e2 => by have := own_lt h.rr e2; omega
  · rw [mem_tdL] at hx ⊢
    have key : v'.ownBlock = some x → vC.ownBlock = some x ∨ w.heap.size ≤ x := fun e => by
      rcases hv with e' | ⟨k', e', hk⟩
      · exact Or.inl (e' ▸ e)
      · rw [e'] at e; injection e with e; subst e; exact Or.inr hk
    rcases hx with e | e | e | e | e | e | e
    · exact Or.inl (by simp [e])
    · exact Or.inl (by simp [e])
    · exact Or.inl (by simp [e])
    · exact Or.inl (by simp [e])
    · rcases key e with e | e
      · exact Or.inl (by simp [e])
      · exact Or.inr e
    · exact Or.inl (by simp [e])
    · exact Or.inl (by simp [e])
/-- Bytes behind the row of port. -/
theorem TdH.feed2 {B g mb : Nat} {td : Td} {vP vV vC vR vE : Value} {w w' : World} (h : TdH B g mb td vP vV vC vR vE w) {v' : Value} {ys : List Int} (k : Kp (g :: vR.ownBlock.toList) w w')
    (hb : Blk w' g 84 ((#[.map (some mb), vP, vV, vC, vR, vE] : Array Value).setIfInBounds 4 v')) (own : w'.ownsRow B 5 1 v' (td.port ++ ys).length (bV (td.port ++ ys))) (hv : v'.ownBlock = vR.ownBlock ∨ ∃ k, v'.ownBlock = some k ∧ w.heap.size ≤ k) :
    TdH B g mb { td with port := td.port ++ ys } vP vV vC v' vE w' ∧ ∀ x ∈ tdL g mb vP vV vC v' vE, x ∈ tdL g mb vP vV vC vR vE ∨ w.heap.size ≤ x := by
  obtain ⟨D, hD, hM⟩ := h.map
  obtain ⟨ps, e1, e2, e3, e4⟩ := h.rom
  have noG : ∀ {B' e s n q : Nat} {u : Value} {xs : List Value}, w.ownsRow B' e s u n xs → e ≠ 84 → u.ownBlock = some q → q ≠ g := fun o hne hq e => by
    subst e
    obtain ⟨_, c, hc⟩ := own_has o hq
    exact hc.ne_ h.blk hne rfl
  have hmb : mb ∉ g :: vR.ownBlock.toList := fun hm => by
    rcases List.mem_cons.1 hm with e | hm
    · exact blk_not_map h.blk hD e.symm
    · exact own_not_map h.rr hD mb (by simpa using hm) (by simp)
  have ne {q : Nat} : q ≠ g → vR.ownBlock ≠ some q → q ∉ g :: vR.ownBlock.toList := fun h1 h2 hm => by
    rcases List.mem_cons.1 hm with e | hm
    · exact h1 e
    · exact h2 (by simpa using hm)
  refine ⟨{
    blk := hb
    gB := h.gB
    mB := h.mB
    map := ⟨D, smap_kp hD k hmb, hM⟩
    rom := ⟨ps, e1, own_kp e2 k (fun q hq => ne (noG e2 (by decide) hq) (own_ne_own e2 h.rr (by decide) hq)), fun p hp => own_kp (e3 p hp) k (fun q hq => ne (noG (e3 p hp) (by decide) hq) (e4 p hp q hq).2.2), fun p hp q hq => ?_⟩
    rv := own_kp h.rv k (fun q hq => ne (noG h.rv (by decide) hq) (h.d1 q hq).2)
    rc := own_kp h.rc k (fun q hq => ne (noG h.rc (by decide) hq) (h.d2 q hq))
    rr := own
    re := own_kp h.re k (fun q hq => ne (noG h.re (by decide) hq) (own_ne_own h.re h.rr (by decide) hq))
    d1 := fun q hq => ?_
    d2 := fun q hq => ?_ }, fun x hx => ?_⟩
  · have hx := e4 p hp q hq
    have hlt := own_lt (e3 p hp) hq
    have hn : v'.ownBlock ≠ some q := by
      rcases hv with e | ⟨k', e, hk⟩
      · rw [e]; exact hx.2.2
      · rw [e]; intro e'; injection e' with e'; omega
    exact ⟨hx.1, hx.2.1, hn⟩
  · have hlt := own_lt h.rv hq
    refine ⟨(h.d1 q hq).1, ?_⟩
    rcases hv with e | ⟨k', e, hk⟩
    · rw [e]; exact (h.d1 q hq).2
    · rw [e]; intro e'; injection e' with e'; omega
  · have hlt := own_lt h.rc hq
    rcases hv with e | ⟨k', e, hk⟩
    · rw [e]; exact h.d2 q hq
    · rw [e]; intro e'; injection e' with e'; omega
  · rw [mem_tdL] at hx ⊢
    have key : v'.ownBlock = some x → vR.ownBlock = some x ∨ w.heap.size ≤ x := fun e => by
      rcases hv with e' | ⟨k', e', hk⟩
      · exact Or.inl (e' ▸ e)
      · rw [e'] at e; injection e with e; subst e; exact Or.inr hk
    rcases hx with e | e | e | e | e | e | e
    · exact Or.inl (by simp [e])
    · exact Or.inl (by simp [e])
    · exact Or.inl (by simp [e])
    · exact Or.inl (by simp [e])
    · exact Or.inl (by simp [e])
    · rcases key e with e | e
      · exact Or.inl (by simp [e])
      · exact Or.inr e
    · exact Or.inl (by simp [e])
/-- A row that is made longer, in its field. -/
theorem row_far {w w5 : World} {g o : Nat} {vX : Value} {T : TypeId} {cs : Array Value} {u : Value} (hg : Blk w g T cs) (gb : w.grownBy w5 vX.ownBlock) (hne : ∀ q, vX.ownBlock = some q → g ≠ q) :
    Blk (w5.setCell ⟨g, o, none⟩ u) g T (cs.setIfInBounds o u) ∧ Kp (g :: vX.ownBlock.toList) w (w5.setCell ⟨g, o, none⟩ u) := by
  have k : Kp (g :: vX.ownBlock.toList) w w5 := Kp.of_grown gb (fun q hq => List.mem_cons_of_mem _ (by simp [hq]))
  refine ⟨(hg.grown gb (fun e => hne g e.symm rfl)).set_ o u, k.setCell (Or.inl (by simp)) u⟩
theorem scedge_inf : (Tryd.prog.info? 31).map (fun i => (i.zero, i.size, i.bytes)) = some (some (.agg #[.int .i64 0, .int .u8 0, .bool false]), 3, 16) := by kernel_rfl
/-- One more piece. -/
theorem TdH.addP {B g mb : Nat} {td : Td} {vP vV vC vR vE : Value} {w : World} (h : TdH B g mb td vP vV vC vR vE w) {at_ : Int} {ys : List Int} {u : Value} (ou : w.ownsRow B 5 1 u ys.length (bV ys)) (du : ∀ q, u.ownBlock = some q → vV.ownBlock ≠ some q ∧ vC.ownBlock ≠ some q ∧ vR.ownBlock ≠ some q) (hB : B ≤ w.heap.size) (hn : td.rom.length ≤ 100000000000) :
    ∃ b c w5, (Builtin.append_ #[82, 82] 82 #[vP, .slice (some ⟨w.heap.size, 0, none⟩) 1 1]).run Tryd.prog (w.alloc (.cells (pcC (at_, u, ys)).toArray 108)) = .ok (.slice (some ⟨b, 0, none⟩) (td.rom.length + 1) c) w5 ∧
      w5.cell? ⟨g, 1, none⟩ = some vP ∧ w5.frozen? ⟨g, 1, none⟩ = false ∧ (w.alloc (.cells (pcC (at_, u, ys)).toArray 108)).grownBy w5 vP.ownBlock ∧
      (∀ u, w.heap[u]? ≠ none → (∀ q, vP.ownBlock = some q → u ≠ q) → w5.heap[u]? = w.heap[u]?) ∧
      TdH B g mb { td with rom := td.rom ++ [(at_, ys)] } (.slice (some ⟨b, 0, none⟩) (td.rom.length + 1) c) vV vC vR vE (w5.setCell ⟨g, 1, none⟩ (.slice (some ⟨b, 0, none⟩) (td.rom.length + 1) c)) ∧
      Kp (tdL g mb vP vV vC vR vE) w (w5.setCell ⟨g, 1, none⟩ (.slice (some ⟨b, 0, none⟩) (td.rom.length + 1) c)) ∧
      ∀ x ∈ tdL g mb (.slice (some ⟨b, 0, none⟩) (td.rom.length + 1) c) vV vC vR vE, x ∈ tdL g mb vP vV vC vR vE ∨ w.heap.size ≤ x := by
  obtain ⟨D, hD, hM⟩ := h.map
  obtain ⟨ps, e1, e2, e3, e4⟩ := h.rom
  have hps : td.rom.length = ps.length := by rw [e1, List.length_map]
  have hps2 : td.rom.length = ps.length := hps
  obtain ⟨v', w5, hrun, own, gb, hv⟩ := more_at (P := Tryd.prog) (t := 82) (e := 108) (ty := 82) (c := 1) (m := 1) Tryd.underlying82 piece_info rfl (by decide) e2 (pcC (at_, u, ys)).toArray rfl
    (fun x hx => by
      simp [pcC] at hx
      rcases hx with rfl | rfl
      · rfl
      · rcases ou.2 with ⟨rfl, _⟩ | ⟨_, _, _, rfl, _⟩ <;> rfl) rfl (by omega) (by omega) hB
  obtain ⟨b, c, rfl⟩ := ownsRow_succ own
  rw [← hps] at own hrun hv
  have gne : ∀ q, vP.ownBlock = some q → g ≠ q := fun q hq e => by
    subst e
    obtain ⟨_, cc, hcc⟩ := own_has e2 hq
    exact hcc.ne_ h.blk (by decide) rfl
  obtain ⟨hb6, k6⟩ := row_far (o := 1) (u := .slice (some ⟨b, 0, none⟩) (td.rom.length + 1) c) (h.blk.alloc _) gb gne
  have hb5 := (h.blk.alloc (.cells (pcC (at_, u, ys)).toArray 108)).grown gb (fun e => gne g e.symm rfl)
  have k0 : Kp (g :: vP.ownBlock.toList) w (w5.setCell ⟨g, 1, none⟩ (.slice (some ⟨b, 0, none⟩) (td.rom.length + 1) c)) := ((Kp.refl _ _).alloc _).trans k6 (fun x hx => Or.inl hx)
  have noG : ∀ {B' e s n q : Nat} {u : Value} {xs : List Value}, w.ownsRow B' e s u n xs → e ≠ 84 → u.ownBlock = some q → q ≠ g := fun o hne hq e => by
    subst e
    obtain ⟨_, cc, hcc⟩ := own_has o hq
    exact hcc.ne_ h.blk hne rfl
  have hmb : mb ∉ g :: vP.ownBlock.toList := fun hm => by
    rcases List.mem_cons.1 hm with e | hm
    · exact blk_not_map h.blk hD e.symm
    · exact own_not_map e2 hD mb (by simpa using hm) (by simp)
  have ne {q : Nat} : q ≠ g → vP.ownBlock ≠ some q → q ∉ g :: vP.ownBlock.toList := fun h1 h2 hm => by
    rcases List.mem_cons.1 hm with e | hm
    · exact h1 e
    · exact h2 (by simpa using hm)
  have hbg : b ≠ g := fun e => by
    subst e
    obtain ⟨_, cc, hcc⟩ := own_has own (q := b) rfl
    exact hcc.ne_ hb5 (by decide) rfl
  have own6 := own_kp own ((Kp.refl [g] w5).setCell (p := ⟨g, 1, none⟩) (Or.inl (by simp)) (.slice (some ⟨b, 0, none⟩) (td.rom.length + 1) c)) (fun q hq hm => by
    injection hq with hq; subst hq; exact hbg (by simpa using hm))
  have hL : ∀ x ∈ g :: vP.ownBlock.toList, x ∈ tdL g mb vP vV vC vR vE := fun x hx => by
    rcases List.mem_cons.1 hx with rfl | hx
    · exact mem_tdL.2 (Or.inl rfl)
    · have : vP.ownBlock = some x := by simpa using hx
      exact mem_tdL.2 (by simp [this])
  refine ⟨b, c, w5, hrun, hb5.cell 1, hb5.frozen 1, gb, fun u hu hq => ?_, {
    blk := hb6
    gB := h.gB
    mB := h.mB
    map := ⟨D, smap_kp hD k0 hmb, hM⟩
    rom := ⟨ps ++ [(at_, u, ys)], by rw [e1]; simp, by rw [show (ps ++ [(at_, u, ys)]).length = td.rom.length + 1 by rw [List.length_append, hps2]; rfl, show (ps ++ [(at_, u, ys)]).flatMap pcC = ps.flatMap pcC ++ (pcC (at_, u, ys)).toArray.toList by simp]; exact own6, fun p hp => ?_, fun p hp q hq => ?_⟩
    rv := own_kp h.rv k0 (fun q hq => ne (noG h.rv (by decide) hq) (own_ne_own h.rv e2 (by decide) hq))
    rc := own_kp h.rc k0 (fun q hq => ne (noG h.rc (by decide) hq) (own_ne_own h.rc e2 (by decide) hq))
    rr := own_kp h.rr k0 (fun q hq => ne (noG h.rr (by decide) hq) (own_ne_own h.rr e2 (by decide) hq))
    re := own_kp h.re k0 (fun q hq => ne (noG h.re (by decide) hq) (own_ne_own h.re e2 (by decide) hq))
    d1 := h.d1
    d2 := h.d2 }, k0.mono hL, fun x hx => ?_⟩
  · have hlt : u < w.heap.size := by
      rcases Nat.lt_or_ge u w.heap.size with hh | hh
      · exact hh
      · exact absurd (Array.getElem?_eq_none hh) hu
    rw [gb.block u (by simp; omega) (fun e => hq u e.symm rfl)]
    exact Below.heap_alloc _ _ _ hlt
  · rcases List.mem_append.1 hp with hp | hp
    · exact own_kp (e3 p hp) k0 (fun q hq => ne (noG (e3 p hp) (by decide) hq) (own_ne_own (e3 p hp) e2 (by decide) hq))
    · simp only [List.mem_singleton] at hp
      subst hp
      exact own_kp ou k0 (fun q hq => ne (noG ou (by decide) hq) (own_ne_own ou e2 (by decide) hq))
  · rcases List.mem_append.1 hp with hp | hp
    · exact e4 p hp q hq
    · simp only [List.mem_singleton] at hp
      subst hp
      exact du q hq
  · rw [mem_tdL] at hx ⊢
    have key : b = x → vP.ownBlock = some x ∨ w.heap.size ≤ x := fun e => by
      subst e
      rcases hv with e' | e'
      · exact Or.inl e'.symm
      · have e2 : b = w.heap.size + 1 := Option.some.inj e'
        exact Or.inr (by omega)
    rcases hx with e | e | e | e | e | e | e
    · exact Or.inl (by simp [e])
    · exact Or.inl (by simp [e])
    · rcases key (by injection e) with e | e
      · exact Or.inl (by simp [e])
      · exact Or.inr e
    · exact Or.inl (by simp [e])
    · exact Or.inl (by simp [e])
    · exact Or.inl (by simp [e])
    · exact Or.inl (by simp [e])
/-- One more edge. -/
theorem TdH.addE {B g mb : Nat} {td : Td} {vP vV vC vR vE : Value} {w : World} (h : TdH B g mb td vP vV vC vR vE w) {p : Iib} (hB : B ≤ w.heap.size) (hn : td.edges.length ≤ 100000000000) :
    ∃ b c w5, (Builtin.append_ #[25, 25] 25 #[vE, .slice (some ⟨w.heap.size, 0, none⟩) 1 1]).run Tryd.prog (w.alloc (.cells (edC p).toArray 31)) = .ok (.slice (some ⟨b, 0, none⟩) (td.edges.length + 1) c) w5 ∧
      w5.cell? ⟨g, 5, none⟩ = some vE ∧ w5.frozen? ⟨g, 5, none⟩ = false ∧ (w.alloc (.cells (edC p).toArray 31)).grownBy w5 vE.ownBlock ∧
      (∀ u, w.heap[u]? ≠ none → (∀ q, vE.ownBlock = some q → u ≠ q) → w5.heap[u]? = w.heap[u]?) ∧
      TdH B g mb { td with edges := td.edges ++ [p] } vP vV vC vR (.slice (some ⟨b, 0, none⟩) (td.edges.length + 1) c) (w5.setCell ⟨g, 5, none⟩ (.slice (some ⟨b, 0, none⟩) (td.edges.length + 1) c)) ∧
      Kp (tdL g mb vP vV vC vR vE) w (w5.setCell ⟨g, 5, none⟩ (.slice (some ⟨b, 0, none⟩) (td.edges.length + 1) c)) ∧
      ∀ x ∈ tdL g mb vP vV vC vR (.slice (some ⟨b, 0, none⟩) (td.edges.length + 1) c), x ∈ tdL g mb vP vV vC vR vE ∨ w.heap.size ≤ x := by
  obtain ⟨D, hD, hM⟩ := h.map
  obtain ⟨ps, e1, e2, e3, e4⟩ := h.rom
  obtain ⟨v', w5, hrun, own, gb, hv⟩ := more_at (P := Tryd.prog) (t := 25) (e := 31) (ty := 25) (c := 1) (m := 1) Tryd.underlying25 scedge_inf rfl (by decide) h.re (edC p).toArray rfl
    (fun x hx => by
      simp [edC] at hx
      rcases hx with rfl | rfl | rfl <;> rfl) rfl (by omega) (by omega) hB
  obtain ⟨b, c, rfl⟩ := ownsRow_succ own
  have gne : ∀ q, vE.ownBlock = some q → g ≠ q := fun q hq e => by
    subst e
    obtain ⟨_, cc, hcc⟩ := own_has h.re hq
    exact hcc.ne_ h.blk (by decide) rfl
  obtain ⟨hb6, k6⟩ := row_far (o := 5) (u := .slice (some ⟨b, 0, none⟩) (td.edges.length + 1) c) (h.blk.alloc _) gb gne
  have hb5 := (h.blk.alloc (.cells (edC p).toArray 31)).grown gb (fun e => gne g e.symm rfl)
  have k0 : Kp (g :: vE.ownBlock.toList) w (w5.setCell ⟨g, 5, none⟩ (.slice (some ⟨b, 0, none⟩) (td.edges.length + 1) c)) := ((Kp.refl _ _).alloc _).trans k6 (fun x hx => Or.inl hx)
  have noG : ∀ {B' e s n q : Nat} {u : Value} {xs : List Value}, w.ownsRow B' e s u n xs → e ≠ 84 → u.ownBlock = some q → q ≠ g := fun o hne hq e => by
    subst e
    obtain ⟨_, cc, hcc⟩ := own_has o hq
    exact hcc.ne_ h.blk hne rfl
  have hmb : mb ∉ g :: vE.ownBlock.toList := fun hm => by
    rcases List.mem_cons.1 hm with e | hm
    · exact blk_not_map h.blk hD e.symm
    · exact own_not_map h.re hD mb (by simpa using hm) (by simp)
  have ne {q : Nat} : q ≠ g → vE.ownBlock ≠ some q → q ∉ g :: vE.ownBlock.toList := fun h1 h2 hm => by
    rcases List.mem_cons.1 hm with e | hm
    · exact h1 e
    · exact h2 (by simpa using hm)
  have hbg : b ≠ g := fun e => by
    subst e
    obtain ⟨_, cc, hcc⟩ := own_has own (q := b) rfl
    exact hcc.ne_ hb5 (by decide) rfl
  have own6 := own_kp own ((Kp.refl [g] w5).setCell (p := ⟨g, 5, none⟩) (Or.inl (by simp)) (.slice (some ⟨b, 0, none⟩) (td.edges.length + 1) c)) (fun q hq hm => by
    injection hq with hq; subst hq; exact hbg (by simpa using hm))
  have hL : ∀ x ∈ g :: vE.ownBlock.toList, x ∈ tdL g mb vP vV vC vR vE := fun x hx => by
    rcases List.mem_cons.1 hx with rfl | hx
    · exact mem_tdL.2 (Or.inl rfl)
    · have : vE.ownBlock = some x := by simpa using hx
      exact mem_tdL.2 (by simp [this])
  refine ⟨b, c, w5, hrun, hb5.cell 5, hb5.frozen 5, gb, fun u hu hq => ?_, {
    blk := hb6
    gB := h.gB
    mB := h.mB
    map := ⟨D, smap_kp hD k0 hmb, hM⟩
    rom := ⟨ps, e1, own_kp e2 k0 (fun q hq => ne (noG e2 (by decide) hq) (own_ne_own e2 h.re (by decide) hq)), fun p hp => own_kp (e3 p hp) k0 (fun q hq => ne (noG (e3 p hp) (by decide) hq) (own_ne_own (e3 p hp) h.re (by decide) hq)), e4⟩
    rv := own_kp h.rv k0 (fun q hq => ne (noG h.rv (by decide) hq) (own_ne_own h.rv h.re (by decide) hq))
    rc := own_kp h.rc k0 (fun q hq => ne (noG h.rc (by decide) hq) (own_ne_own h.rc h.re (by decide) hq))
    rr := own_kp h.rr k0 (fun q hq => ne (noG h.rr (by decide) hq) (own_ne_own h.rr h.re (by decide) hq))
    re := by simpa [List.flatMap_append] using own6
    d1 := h.d1
    d2 := h.d2 }, k0.mono hL, fun x hx => ?_⟩
  · have hlt : u < w.heap.size := by
      rcases Nat.lt_or_ge u w.heap.size with hh | hh
      · exact hh
      · exact absurd (Array.getElem?_eq_none hh) hu
    rw [gb.block u (by simp; omega) (fun e => hq u e.symm rfl)]
    exact Below.heap_alloc _ _ _ hlt
  · rw [mem_tdL] at hx ⊢
    have key : b = x → vE.ownBlock = some x ∨ w.heap.size ≤ x := fun e => by
      subst e
      rcases hv with e' | e'
      · exact Or.inl e'.symm
      · have e2 : b = w.heap.size + 1 := Option.some.inj e'
        exact Or.inr (by omega)
    rcases hx with e | e | e | e | e | e | e
    · exact Or.inl (by simp [e])
    · exact Or.inl (by simp [e])
    · exact Or.inl (by simp [e])
    · exact Or.inl (by simp [e])
    · exact Or.inl (by simp [e])
    · exact Or.inl (by simp [e])
    · rcases key (by injection e) with e | e
      · exact Or.inl (by simp [e])
      · exact Or.inr e
end Go.Proofs.YtnhnphifhkkboaaDoor
